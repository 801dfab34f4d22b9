/- the texts Oa, Ob, Oc, Od, Oh, Ok, Ol, Om, in part, merged by program -/
import Derived.Test.YtkpdmgoldngdaaaGreatDoorProg
import Derived.Test.YtkpdmgoldngdaaaGreatDoorRows
import Derived.Laws.OwnMore
import Derived.Laws.AppendOwn
import Derived.Laws.AppendOwnNone
import Derived.WalkKit
import Derived.WalkSpells
import Derived.Deep.LoopGhost
import Derived.Deep.RegionHeld3
import Derived.Shelf.Strings.Repeat
import Derived.RegionTactic
import Derived.Below
import Derived.Deep.QuietTactic
import Derived.BigQuiet
import Derived.WalkSmall
import Derived.Laws.StructEq
import Derived.BigRegion
import Derived.Test.YtkpdmgoldngdaaaGreatDoorMA01
import Derived.Test.YtkpdmgoldngdaaaGreatDoorMA04
import Derived.Test.YtkpdmgoldngdaaaGreatDoorMD01
namespace Go.Proofs.YtkpdmgoldngdaaaGreatDoor
open Go.RowKit
set_option maxRecDepth 100000
theorem At.eight {W : World} {b : Nat} {v0 v1 v2 v3 v4 v5 v6 v7 : Value} (h : At W b #[v0, v1, v2, v3, v4, v5, v6, v7]) : (W.cell? ⟨b, 0, none⟩ = some v0 ∧ W.cell? ⟨b, 1, none⟩ = some v1 ∧ W.cell? ⟨b, 2, none⟩ = some v2 ∧ W.cell? ⟨b, 3, none⟩ = some v3 ∧ W.cell? ⟨b, 4, none⟩ = some v4 ∧ W.cell? ⟨b, 5, none⟩ = some v5 ∧ W.cell? ⟨b, 6, none⟩ = some v6 ∧ W.cell? ⟨b, 7, none⟩ = some v7) ∧ (W.frozen? ⟨b, 0, none⟩ = false ∧ W.frozen? ⟨b, 1, none⟩ = false ∧ W.frozen? ⟨b, 2, none⟩ = false ∧ W.frozen? ⟨b, 3, none⟩ = false ∧ W.frozen? ⟨b, 4, none⟩ = false ∧ W.frozen? ⟨b, 5, none⟩ = false ∧ W.frozen? ⟨b, 6, none⟩ = false ∧ W.frozen? ⟨b, 7, none⟩ = false) ∧ b < W.heap.size :=
  ⟨⟨(h.2 0 _ rfl).1, (h.2 1 _ rfl).1, (h.2 2 _ rfl).1, (h.2 3 _ rfl).1, (h.2 4 _ rfl).1, (h.2 5 _ rfl).1, (h.2 6 _ rfl).1, (h.2 7 _ rfl).1⟩, ⟨(h.2 0 _ rfl).2, (h.2 1 _ rfl).2, (h.2 2 _ rfl).2, (h.2 3 _ rfl).2, (h.2 4 _ rfl).2, (h.2 5 _ rfl).2, (h.2 6 _ rfl).2, (h.2 7 _ rfl).2⟩, h.1⟩
theorem below8 {w W : World} {b : Nat} (h : Below w.heap.size w W) (hb : w.heap.size ≤ b) (v0 v1 v2 v3 v4 v5 v6 v7 : Value) : Below w.heap.size w ((((((((W.setCell ⟨b, 0, none⟩ v0).setCell ⟨b, 1, none⟩ v1).setCell ⟨b, 2, none⟩ v2).setCell ⟨b, 3, none⟩ v3).setCell ⟨b, 4, none⟩ v4).setCell ⟨b, 5, none⟩ v5).setCell ⟨b, 6, none⟩ v6).setCell ⟨b, 7, none⟩ v7) :=
  (((((((h.setCell hb _).setCell hb _).setCell hb _).setCell hb _).setCell hb _).setCell hb _).setCell hb _).setCell hb _
theorem At.set8 {W : World} {b : Nat} {v0 v1 v2 v3 v4 v5 v6 v7 : Value} (h : At W b #[v0, v1, v2, v3, v4, v5, v6, v7]) (u0 u1 u2 u3 u4 u5 u6 u7 : Value) : At ((((((((W.setCell ⟨b, 0, none⟩ u0).setCell ⟨b, 1, none⟩ u1).setCell ⟨b, 2, none⟩ u2).setCell ⟨b, 3, none⟩ u3).setCell ⟨b, 4, none⟩ u4).setCell ⟨b, 5, none⟩ u5).setCell ⟨b, 6, none⟩ u6).setCell ⟨b, 7, none⟩ u7) b #[u0, u1, u2, u3, u4, u5, u6, u7] := by
  have h0 : At _ b #[u0, v1, v2, v3, v4, v5, v6, v7] := h.set 0 u0
  have h1 : At _ b #[u0, u1, v2, v3, v4, v5, v6, v7] := h0.set 1 u1
  have h2 : At _ b #[u0, u1, u2, v3, v4, v5, v6, v7] := h1.set 2 u2
  have h3 : At _ b #[u0, u1, u2, u3, v4, v5, v6, v7] := h2.set 3 u3
  have h4 : At _ b #[u0, u1, u2, u3, u4, v5, v6, v7] := h3.set 4 u4
  have h5 : At _ b #[u0, u1, u2, u3, u4, u5, v6, v7] := h4.set 5 u5
  have h6 : At _ b #[u0, u1, u2, u3, u4, u5, u6, v7] := h5.set 6 u6
  have h7 : At _ b #[u0, u1, u2, u3, u4, u5, u6, u7] := h6.set 7 u7
  exact h7
theorem At.keep8 {W : World} {b c : Nat} {vs : Array Value} (h : At W c vs) (hne : b ≠ c) (u0 u1 u2 u3 u4 u5 u6 u7 : Value) : At ((((((((W.setCell ⟨b, 0, none⟩ u0).setCell ⟨b, 1, none⟩ u1).setCell ⟨b, 2, none⟩ u2).setCell ⟨b, 3, none⟩ u3).setCell ⟨b, 4, none⟩ u4).setCell ⟨b, 5, none⟩ u5).setCell ⟨b, 6, none⟩ u6).setCell ⟨b, 7, none⟩ u7) c vs :=
  (((((((h.keep hne 0 u0).keep hne 1 u1).keep hne 2 u2).keep hne 3 u3).keep hne 4 u4).keep hne 5 u5).keep hne 6 u6).keep hne 7 u7
theorem own_mono {w : World} {base base' : Nat} {e : TypeId} {size n : Nat} {v : Value} {xs : List Value} (h : w.ownsRow base e size v n xs) (hb : base' ≤ base) : w.ownsRow base' e size v n xs := by
  refine ⟨h.1, ?_⟩
  rcases h.2 with h | ⟨g, cap, cur, hv, hg, rest⟩
  · exact .inl h
  · exact .inr ⟨g, cap, cur, hv, by omega, rest⟩
def Rgs (W : World) (v : Value) (rs : List (Int × Int)) : Prop :=
  ∃ (a : Option Addr) (cap : Nat), v = .slice a rs.length cap ∧ (rs.length ≤ cap ∧ (a = none → cap = 0)) ∧ (rs = [] ∨ ∃ b off, a = some ⟨b, off, none⟩ ∧ ∀ j r, rs[j]? = some r → W.cell? ⟨b, off + j * 2, none⟩ = some (.int .i64 r.1) ∧ W.cell? ⟨b, off + j * 2 + 1, none⟩ = some (.int .i64 r.2))
theorem Rgs.later {w x : World} {v : Value} {rs : List (Int × Int)} (h : Rgs w v rs) (hb : Below w.heap.size w x) : Rgs x v rs := by
  obtain ⟨a, cap, hv, hc, h⟩ := h
  refine ⟨a, cap, hv, hc, ?_⟩
  rcases h with h | ⟨b, off, ha, hx⟩
  · exact .inl h
  · exact .inr ⟨b, off, ha, fun j r hr => ⟨YtkpdmgoldngdaaaGreatDoor.later hb (hx j r hr).1, YtkpdmgoldngdaaaGreatDoor.later hb (hx j r hr).2⟩⟩
theorem Rgs.nil (W : World) : Rgs W (.slice none 0 0) [] := ⟨none, 0, rfl, ⟨Nat.le_refl _, fun _ => rfl⟩, .inl rfl⟩
def flatR (rs : List (Int × Int)) : List Value := rs.flatMap fun r => [.int .i64 r.1, .int .i64 r.2]
theorem flatR_snoc (rs : List (Int × Int)) (r : Int × Int) : flatR (rs ++ [r]) = flatR rs ++ [.int .i64 r.1, .int .i64 r.2] := by simp [flatR]
theorem flatR_at (rs : List (Int × Int)) (j : Nat) (r : Int × Int) (h : rs[j]? = some r) : (flatR rs)[j * 2]? = some (.int .i64 r.1) ∧ (flatR rs)[j * 2 + 1]? = some (.int .i64 r.2) := by
  induction rs generalizing j with
  | nil => simp at h
  | cons q rs ih =>
    have e : flatR (q :: rs) = .int .i64 q.1 :: .int .i64 q.2 :: flatR rs := rfl
    rw [e]
    cases j with
    | zero =>
      simp only [List.getElem?_cons_zero, Option.some.injEq] at h
      subst h
      exact ⟨rfl, rfl⟩
    | succ j =>
      simp only [List.getElem?_cons_succ] at h
      rw [show (j + 1) * 2 = j * 2 + 1 + 1 by omega]
      simpa using ih j h
theorem own_slice {w : World} {base n : Nat} {v : Value} {xs : List Value} (h : w.ownsRow base 148 2 v n xs) : ∃ o cap, v = .slice o n cap ∧ n ≤ cap ∧ (0 < n → ∃ g, o = some ⟨g, 0, none⟩) := by
  rcases h.2 with ⟨rfl, rfl⟩ | ⟨g, cap, cur, rfl, -, -, hn, -⟩
  · exact ⟨none, 0, rfl, Nat.le_refl _, fun h => absurd h (by omega)⟩
  · exact ⟨_, cap, rfl, hn, fun _ => ⟨g, rfl⟩⟩
theorem Rgs.of_own {w : World} {base : Nat} {v : Value} {rs : List (Int × Int)} (h : w.ownsRow base 148 2 v rs.length (flatR rs)) : Rgs w v rs := by
  rcases h.2 with ⟨rfl, h0⟩ | ⟨g, cap, cur, rfl, -, -, hn, -⟩
  · rw [List.eq_nil_of_length_eq_zero h0]; exact Rgs.nil w
  · refine ⟨some ⟨g, 0, none⟩, cap, rfl, ⟨hn, fun h => by cases h⟩, .inr ⟨g, 0, rfl, fun j r hr => ?_⟩⟩
    have hj := (List.getElem?_eq_some_iff.1 hr).1
    obtain ⟨r1, r2⟩ := flatR_at rs j r hr
    rw [Nat.zero_add]
    exact ⟨(h.cellAt (j * 2) (by omega)).trans r1, (h.cellAt (j * 2 + 1) (by omega)).trans r2⟩
def fitsB (n most : Int) : Bool := decide (0 ≤ n ∧ n ≤ most)
def rgB (r : Int × Int) : Bool := numB r.1 && numB r.2 && !decide (r.1 = r.2)
def lenK (m : Int) (sd ok sp : Bool) (n k : Nat) : Nat :=
  n * 8 + (if 0 < k ∧ m ≠ 0 then 4 else 0) + (if 1 < k ∧ sd = true then 3 else 0) + (if 2 < k ∧ ok = true then 2 else 0) + (if 3 < k ∧ sp = true then 10 else 0) + (if 4 < k ∧ 0 < n then 2 else 0)
def longN (m : Int) (sd ok sp : Bool) (n : Nat) : Nat := (lenK m sd ok sp n 5 + 3) / 4 * 4
def mayO (m c t ec : Int) (sd ok sp : Bool) (rs : List (Int × Int)) : Bool :=
  fitsB m 65535 && fitsB c 14 && (sd || decide (c = 0)) && numB t && numB ec && (sp || (decide (t = 0) && decide (ec = 0))) && decide (longN m sd ok sp rs.length ≤ 40) && !(rs.any fun r => !rgB r)
def codeO (b : Bool) : Int := if b = true then 0 else 70
theorem codeO_t : codeO true = 0 := rfl
theorem codeO_f : codeO false = 70 := rfl
theorem lenK_le (m : Int) (sd ok sp : Bool) (n k : Nat) : n * 8 ≤ lenK m sd ok sp n k ∧ lenK m sd ok sp n k ≤ n * 8 + 21 := by
  unfold lenK
  refine ⟨by omega, ?_⟩
  repeat' split
  all_goals omega
end Go.Proofs.YtkpdmgoldngdaaaGreatDoor

namespace Go.Proofs.YtkpdmgoldngdaaaGreatDoor
open Go.RowKit
set_option maxRecDepth 100000

theorem fits_any (n most : Int) (w : World) : Calls Tryz.prog 144 #[.int .i64 n, .int .i64 most] w fun e w' => e = .returned (.bool (fitsB n most)) ∧ w' = w := by
  unfold fitsB
  by_cases h0 : 0 ≤ n
  · by_cases h1 : n ≤ most
    · rw [decide_eq_true ⟨h0, h1⟩]
      go_enter Tryz.func144, Tryz.ntmps144
      go_wp2
      go_ret
      exact ⟨rfl, rfl⟩
    · rw [decide_eq_false (by omega)]
      go_enter Tryz.func144, Tryz.ntmps144
      go_wp2
      go_ret
      exact ⟨rfl, rfl⟩
  · rw [decide_eq_false (by omega)]
    go_enter Tryz.func144, Tryz.ntmps144
    go_wp2
    go_ret
    exact ⟨rfl, rfl⟩
theorem number_any (n : Int) (w : World) : Calls Tryz.prog 145 #[.int .i64 n] w fun e w' => e = .returned (.bool (numB n)) ∧ w' = w := by
  have c1 : codeOf true = 0 := rfl
  have c2 : codeOf false = 1 := rfl
  rcases Bool.eq_false_or_eq_true (numB n) with h | h
  all_goals
    go_enter Tryz.func145, Tryz.ntmps145
    go_wp2_with fail
    refine (check_any _ _).mono ?_
    rw [h]
    rintro e w' ⟨rfl, rfl⟩
    go_wp2
    go_ret
    exact ⟨by rw [h]; rfl, rfl⟩
theorem fixed_2 (w : World) : Calls Tryz.prog 142 #[.int .i64 2] w fun e w' => e = .returned (.int .i64 2) ∧ w' = w := by
  go_enter Tryz.func142, Tryz.ntmps142
  go_wp2
  go_ret
  exact ⟨rfl, rfl⟩
theorem fixed_3 (w : World) : Calls Tryz.prog 142 #[.int .i64 3] w fun e w' => e = .returned (.int .i64 1) ∧ w' = w := by
  go_enter Tryz.func142, Tryz.ntmps142
  go_wp2
  go_ret
  exact ⟨rfl, rfl⟩
theorem fixed_4 (w : World) : Calls Tryz.prog 142 #[.int .i64 4] w fun e w' => e = .returned (.int .i64 0) ∧ w' = w := by
  go_enter Tryz.func142, Tryz.ntmps142
  go_wp2
  go_ret
  exact ⟨rfl, rfl⟩
theorem fixed_8 (w : World) : Calls Tryz.prog 142 #[.int .i64 8] w fun e w' => e = .returned (.int .i64 8) ∧ w' = w := by
  go_enter Tryz.func142, Tryz.ntmps142
  go_wp2
  go_ret
  exact ⟨rfl, rfl⟩
theorem fixed_5 (w : World) : Calls Tryz.prog 142 #[.int .i64 5] w fun e w' => e = .returned (.int .i64 0) ∧ w' = w := by
  go_enter Tryz.func142, Tryz.ntmps142
  go_wp2
  go_ret
  exact ⟨rfl, rfl⟩
theorem has_2 (m c t ec : Int) (sd ok sp : Bool) (a : Option Addr) (n cap : Nat) (w : World) :
    Calls Tryz.prog 131 #[.agg #[.int .i64 m, .int .i64 c, .int .i64 t, .int .i64 ec, .bool sd, .bool ok, .bool sp, (.slice a n cap)], .int .i64 2] w fun e w' => e = .returned (.bool (m != 0)) ∧ Below w.heap.size w w' := by
  obtain ⟨⟨c0, c1, c2, c3, c4, c5, c6, c7⟩, -, -⟩ := (At.box w #[.int .i64 m, .int .i64 c, .int .i64 t, .int .i64 ec, .bool sd, .bool ok, .bool sp, (.slice a n cap)] 32).eight
  have hl := bel1 w (.cells #[.int .i64 m, .int .i64 c, .int .i64 t, .int .i64 ec, .bool sd, .bool ok, .bool sp, (.slice a n cap)] 32)
  go_enter Tryz.func131, Tryz.ntmps131
  go_wp2
  go_ret
  exact ⟨by simp, hl⟩
theorem has_3 (m c t ec : Int) (sd ok sp : Bool) (a : Option Addr) (n cap : Nat) (w : World) :
    Calls Tryz.prog 131 #[.agg #[.int .i64 m, .int .i64 c, .int .i64 t, .int .i64 ec, .bool sd, .bool ok, .bool sp, (.slice a n cap)], .int .i64 3] w fun e w' => e = .returned (.bool sd) ∧ Below w.heap.size w w' := by
  obtain ⟨⟨c0, c1, c2, c3, c4, c5, c6, c7⟩, -, -⟩ := (At.box w #[.int .i64 m, .int .i64 c, .int .i64 t, .int .i64 ec, .bool sd, .bool ok, .bool sp, (.slice a n cap)] 32).eight
  have hl := bel1 w (.cells #[.int .i64 m, .int .i64 c, .int .i64 t, .int .i64 ec, .bool sd, .bool ok, .bool sp, (.slice a n cap)] 32)
  go_enter Tryz.func131, Tryz.ntmps131
  go_wp2
  go_ret
  exact ⟨by simp, hl⟩
theorem has_4 (m c t ec : Int) (sd ok sp : Bool) (a : Option Addr) (n cap : Nat) (w : World) :
    Calls Tryz.prog 131 #[.agg #[.int .i64 m, .int .i64 c, .int .i64 t, .int .i64 ec, .bool sd, .bool ok, .bool sp, (.slice a n cap)], .int .i64 4] w fun e w' => e = .returned (.bool ok) ∧ Below w.heap.size w w' := by
  obtain ⟨⟨c0, c1, c2, c3, c4, c5, c6, c7⟩, -, -⟩ := (At.box w #[.int .i64 m, .int .i64 c, .int .i64 t, .int .i64 ec, .bool sd, .bool ok, .bool sp, (.slice a n cap)] 32).eight
  have hl := bel1 w (.cells #[.int .i64 m, .int .i64 c, .int .i64 t, .int .i64 ec, .bool sd, .bool ok, .bool sp, (.slice a n cap)] 32)
  go_enter Tryz.func131, Tryz.ntmps131
  go_wp2
  go_ret
  exact ⟨by simp, hl⟩
theorem has_8 (m c t ec : Int) (sd ok sp : Bool) (a : Option Addr) (n cap : Nat) (w : World) :
    Calls Tryz.prog 131 #[.agg #[.int .i64 m, .int .i64 c, .int .i64 t, .int .i64 ec, .bool sd, .bool ok, .bool sp, (.slice a n cap)], .int .i64 8] w fun e w' => e = .returned (.bool sp) ∧ Below w.heap.size w w' := by
  obtain ⟨⟨c0, c1, c2, c3, c4, c5, c6, c7⟩, -, -⟩ := (At.box w #[.int .i64 m, .int .i64 c, .int .i64 t, .int .i64 ec, .bool sd, .bool ok, .bool sp, (.slice a n cap)] 32).eight
  have hl := bel1 w (.cells #[.int .i64 m, .int .i64 c, .int .i64 t, .int .i64 ec, .bool sd, .bool ok, .bool sp, (.slice a n cap)] 32)
  go_enter Tryz.func131, Tryz.ntmps131
  go_wp2
  go_ret
  exact ⟨by simp, hl⟩
theorem has_5 (m c t ec : Int) (sd ok sp : Bool) (a : Option Addr) (n cap : Nat) (w : World) :
    Calls Tryz.prog 131 #[.agg #[.int .i64 m, .int .i64 c, .int .i64 t, .int .i64 ec, .bool sd, .bool ok, .bool sp, (.slice a n cap)], .int .i64 5] w fun e w' => e = .returned (.bool (decide (0 < n))) ∧ Below w.heap.size w w' := by
  obtain ⟨⟨c0, c1, c2, c3, c4, c5, c6, c7⟩, -, -⟩ := (At.box w #[.int .i64 m, .int .i64 c, .int .i64 t, .int .i64 ec, .bool sd, .bool ok, .bool sp, (.slice a n cap)] 32).eight
  have hl := bel1 w (.cells #[.int .i64 m, .int .i64 c, .int .i64 t, .int .i64 ec, .bool sd, .bool ok, .bool sp, (.slice a n cap)] 32)
  go_enter Tryz.func131, Tryz.ntmps131
  go_wp2
  go_ret
  exact ⟨by simp, hl⟩
theorem ix_0 (w : World) : (Instr.index 183 (.agg #[.int .i64 2, .int .i64 3, .int .i64 4, .int .i64 8, .int .i64 5]) (.int .i64 0)).run Tryz.prog w = .ok (.int .i64 2) w := by kernel_rfl
theorem ix_1 (w : World) : (Instr.index 183 (.agg #[.int .i64 2, .int .i64 3, .int .i64 4, .int .i64 8, .int .i64 5]) (.int .i64 1)).run Tryz.prog w = .ok (.int .i64 3) w := by kernel_rfl
theorem ix_2 (w : World) : (Instr.index 183 (.agg #[.int .i64 2, .int .i64 3, .int .i64 4, .int .i64 8, .int .i64 5]) (.int .i64 2)).run Tryz.prog w = .ok (.int .i64 4) w := by kernel_rfl
theorem ix_3 (w : World) : (Instr.index 183 (.agg #[.int .i64 2, .int .i64 3, .int .i64 4, .int .i64 8, .int .i64 5]) (.int .i64 3)).run Tryz.prog w = .ok (.int .i64 8) w := by kernel_rfl
theorem ix_4 (w : World) : (Instr.index 183 (.agg #[.int .i64 2, .int .i64 3, .int .i64 4, .int .i64 8, .int .i64 5]) (.int .i64 4)).run Tryz.prog w = .ok (.int .i64 5) w := by kernel_rfl
set_option maxRecDepth 100000 in
set_option maxHeartbeats 2000000 in
theorem long_any (m c t ec : Int) (sd ok sp : Bool) (x : Option Addr) (n cap : Nat) (w : World) (hn : n ≤ 17592186044416) (hG : Ord w) :
    Calls Tryz.prog 135 #[.agg #[.int .i64 m, .int .i64 c, .int .i64 t, .int .i64 ec, .bool sd, .bool ok, .bool sp, (.slice x n cap)]] w fun e w' => e = .returned (.int .i64 (longN m sd ok sp n)) ∧ Below w.heap.size w w' := by
  have hA := At.box w #[.int .i64 m, .int .i64 c, .int .i64 t, .int .i64 ec, .bool sd, .bool ok, .bool sp, (.slice x n cap)] 32
  have hl := bel1 w (.cells #[.int .i64 m, .int .i64 c, .int .i64 t, .int .i64 ec, .bool sd, .bool ok, .bool sp, (.slice x n cap)] 32)
  have hn' : (n : Int) ≤ 17592186044416 := by omega
  obtain ⟨g0, g1, g2, g3, g4⟩ := hG.later hl
  obtain ⟨⟨c0, c1, c2, c3, c4, c5, c6, c7⟩, -, -⟩ := hA.eight
  have HA : Hid (At (w.alloc (.cells #[.int .i64 m, .int .i64 c, .int .i64 t, .int .i64 ec, .bool sd, .bool ok, .bool sp, (.slice x n cap)] 32)) w.heap.size #[.int .i64 m, .int .i64 c, .int .i64 t, .int .i64 ec, .bool sd, .bool ok, .bool sp, (.slice x n cap)]) := hA
  have HL : Hid (Below w.heap.size w (w.alloc (.cells #[.int .i64 m, .int .i64 c, .int .i64 t, .int .i64 ec, .bool sd, .bool ok, .bool sp, (.slice x n cap)] 32))) := hl
  clear hA hl hG
  go_enter Tryz.func135, Tryz.ntmps135
  go_wp2
  clear g0 g1 g2 g3 g4 c0 c1 c2 c3 c4 c5 c6 c7
  go_loopw [3, 11] (fun s i W => ∃ k : Nat, k ≤ 5 ∧ i = .int .i64 k ∧ s = .int .i64 (lenK m sd ok sp n k) ∧ Below (w.alloc (.cells #[.int .i64 m, .int .i64 c, .int .i64 t, .int .i64 ec, .bool sd, .bool ok, .bool sp, (.slice x n cap)] 32)).heap.size (w.alloc (.cells #[.int .i64 m, .int .i64 c, .int .i64 t, .int .i64 ec, .bool sd, .bool ok, .bool sp, (.slice x n cap)] 32)) W) (fun _ i _ => 5 - (intOf i).toNat)
  case atStart => exact ⟨0, by omega, rfl, by simp [lenK], Below.refl _ _⟩
  case round =>
    obtain ⟨k, hk, rfl, rfl, hbl⟩ := hrel
    obtain ⟨⟨c0, c1, c2, c3, c4, c5, c6, c7⟩, -, -⟩ := (HA.out.later hbl).eight
    have hle := (lenK_le m sd ok sp n k).2
    have hle' : ((lenK m sd ok sp n k : Nat) : Int) ≤ 140737488355400 := by omega
    have hle0 : (0 : Int) ≤ ((lenK m sd ok sp n k : Nat) : Int) := by omega
    obtain rfl | rfl | rfl | rfl | rfl | rfl : k = 0 ∨ k = 1 ∨ k = 2 ∨ k = 3 ∨ k = 4 ∨ k = 5 := by omega
    · have HT : Hid (m ≠ 0 → lenK m sd ok sp n 1 = lenK m sd ok sp n 0 + 4) := fun h => by simp [lenK, h]
      have HF : Hid (¬ (m ≠ 0) → lenK m sd ok sp n 1 = lenK m sd ok sp n 0) := fun h => by simp [lenK, h]
      have hix := ix_0 wr
      rcases Bool.eq_false_or_eq_true (m != 0) with hh | hh
      · go_wp2_with fail
        refine (has_2 _ _ _ _ _ _ _ x n cap _).mono ?_
        rw [hh]
        rintro e wa ⟨rfl, hb⟩
        go_wp2_with fail
        refine (fixed_2 _).mono ?_
        rintro e wb ⟨rfl, rfl⟩
        go_wp2
        go_roundw
        case rel => exact ⟨1, by omega, by go_num, by rw [HT.out (by simpa using hh)]; go_num, bt hbl hb⟩
        case measure => simp [intOf]
      · go_wp2_with fail
        refine (has_2 _ _ _ _ _ _ _ x n cap _).mono ?_
        rw [hh]
        rintro e wa ⟨rfl, hb⟩
        go_wp2
        go_roundw
        case rel => exact ⟨1, by omega, by go_num, by rw [HF.out (by simpa using hh)], bt hbl hb⟩
        case measure => simp [intOf]
    · have HT : Hid (sd = true → lenK m sd ok sp n 2 = lenK m sd ok sp n 1 + 3) := fun h => by simp [lenK, h]
      have HF : Hid (¬ (sd = true) → lenK m sd ok sp n 2 = lenK m sd ok sp n 1) := fun h => by simp [lenK, h]
      have hix := ix_1 wr
      rcases Bool.eq_false_or_eq_true sd with rfl | rfl
      · go_wp2_with fail
        refine (has_3 _ _ _ _ _ _ _ x n cap _).mono ?_
        rintro e wa ⟨rfl, hb⟩
        go_wp2_with fail
        refine (fixed_3 _).mono ?_
        rintro e wb ⟨rfl, rfl⟩
        go_wp2
        go_roundw
        case rel => exact ⟨2, by omega, by go_num, by rw [HT.out (by simp)]; go_num, bt hbl hb⟩
        case measure => simp [intOf]
      · go_wp2_with fail
        refine (has_3 _ _ _ _ _ _ _ x n cap _).mono ?_
        rintro e wa ⟨rfl, hb⟩
        go_wp2
        go_roundw
        case rel => exact ⟨2, by omega, by go_num, by rw [HF.out (by simp)], bt hbl hb⟩
        case measure => simp [intOf]
    · have HT : Hid (ok = true → lenK m sd ok sp n 3 = lenK m sd ok sp n 2 + 2) := fun h => by simp [lenK, h]
      have HF : Hid (¬ (ok = true) → lenK m sd ok sp n 3 = lenK m sd ok sp n 2) := fun h => by simp [lenK, h]
      have hix := ix_2 wr
      rcases Bool.eq_false_or_eq_true ok with rfl | rfl
      · go_wp2_with fail
        refine (has_4 _ _ _ _ _ _ _ x n cap _).mono ?_
        rintro e wa ⟨rfl, hb⟩
        go_wp2_with fail
        refine (fixed_4 _).mono ?_
        rintro e wb ⟨rfl, rfl⟩
        go_wp2
        go_roundw
        case rel => exact ⟨3, by omega, by go_num, by rw [HT.out (by simp)]; go_num, bt hbl hb⟩
        case measure => simp [intOf]
      · go_wp2_with fail
        refine (has_4 _ _ _ _ _ _ _ x n cap _).mono ?_
        rintro e wa ⟨rfl, hb⟩
        go_wp2
        go_roundw
        case rel => exact ⟨3, by omega, by go_num, by rw [HF.out (by simp)], bt hbl hb⟩
        case measure => simp [intOf]
    · have HT : Hid (sp = true → lenK m sd ok sp n 4 = lenK m sd ok sp n 3 + 10) := fun h => by simp [lenK, h]
      have HF : Hid (¬ (sp = true) → lenK m sd ok sp n 4 = lenK m sd ok sp n 3) := fun h => by simp [lenK, h]
      have hix := ix_3 wr
      rcases Bool.eq_false_or_eq_true sp with rfl | rfl
      · go_wp2_with fail
        refine (has_8 _ _ _ _ _ _ _ x n cap _).mono ?_
        rintro e wa ⟨rfl, hb⟩
        go_wp2_with fail
        refine (fixed_8 _).mono ?_
        rintro e wb ⟨rfl, rfl⟩
        go_wp2
        go_roundw
        case rel => exact ⟨4, by omega, by go_num, by rw [HT.out (by simp)]; go_num, bt hbl hb⟩
        case measure => simp [intOf]
      · go_wp2_with fail
        refine (has_8 _ _ _ _ _ _ _ x n cap _).mono ?_
        rintro e wa ⟨rfl, hb⟩
        go_wp2
        go_roundw
        case rel => exact ⟨4, by omega, by go_num, by rw [HF.out (by simp)], bt hbl hb⟩
        case measure => simp [intOf]
    · have HT : Hid (0 < n → lenK m sd ok sp n 5 = lenK m sd ok sp n 4 + 2) := fun h => by simp [lenK, h]
      have HF : Hid (¬ (0 < n) → lenK m sd ok sp n 5 = lenK m sd ok sp n 4) := fun h => by simp [lenK, h]
      have hix := ix_4 wr
      rcases Bool.eq_false_or_eq_true (decide (0 < n)) with hh | hh
      · go_wp2_with fail
        refine (has_5 _ _ _ _ _ _ _ x n cap _).mono ?_
        rw [hh]
        rintro e wa ⟨rfl, hb⟩
        go_wp2_with fail
        refine (fixed_5 _).mono ?_
        rintro e wb ⟨rfl, rfl⟩
        go_wp2
        go_roundw
        case rel => exact ⟨5, by omega, by go_num, by rw [HT.out (by simpa using hh)]; go_num, bt hbl hb⟩
        case measure => simp [intOf]
      · go_wp2_with fail
        refine (has_5 _ _ _ _ _ _ _ x n cap _).mono ?_
        rw [hh]
        rintro e wa ⟨rfl, hb⟩
        go_wp2
        go_roundw
        case rel => exact ⟨5, by omega, by go_num, by rw [HF.out (by simpa using hh)], bt hbl hb⟩
        case measure => simp [intOf]
    · have HE : Hid (((longN m sd ok sp n : Nat) : Int) = ((lenK m sd ok sp n 5 : Nat) + 4 - 1) / 4 * 4) := by
        show _ = _
        unfold longN
        omega
      go_wp2
      go_ret
      exact ⟨by rw [HE.out]; rfl, bt HL.out hbl⟩
theorem wrong_any (r : Int × Int) (w : World) : Calls Tryz.prog 147 #[.agg #[.int .i64 r.1, .int .i64 r.2]] w fun e w' => e = .returned (.bool (!rgB r)) ∧ Below w.heap.size w w' := by
  obtain ⟨x, y⟩ := r
  have hl := bel1 w (.cells #[.int .i64 x, .int .i64 y] 148)
  unfold rgB
  show Calls Tryz.prog 147 #[.agg #[.int .i64 x, .int .i64 y]] w fun e w' => e = .returned (.bool (!(numB x && numB y && !decide (x = y)))) ∧ Below w.heap.size w w'
  rcases Bool.eq_false_or_eq_true (numB x) with h | h
  · rcases Bool.eq_false_or_eq_true (numB y) with h2 | h2
    · by_cases h3 : x = y
      · subst h3
        clear h2
        go_enter Tryz.func147, Tryz.ntmps147
        go_wp2_with fail
        refine (number_any _ _).mono ?_
        rw [h]
        rintro e w' ⟨rfl, rfl⟩
        go_wp2_with fail
        refine (number_any _ _).mono ?_
        rw [h]
        rintro e w' ⟨rfl, rfl⟩
        go_wp2
        go_ret
        exact ⟨by simp [h], hl⟩
      · go_enter Tryz.func147, Tryz.ntmps147
        go_wp2_with fail
        refine (number_any _ _).mono ?_
        rw [h]
        rintro e w' ⟨rfl, rfl⟩
        go_wp2_with fail
        refine (number_any _ _).mono ?_
        rw [h2]
        rintro e w' ⟨rfl, rfl⟩
        go_wp2
        go_ret
        exact ⟨by simp [h, h2, h3], hl⟩
    · go_enter Tryz.func147, Tryz.ntmps147
      go_wp2_with fail
      refine (number_any _ _).mono ?_
      rw [h]
      rintro e w' ⟨rfl, rfl⟩
      go_wp2_with fail
      refine (number_any _ _).mono ?_
      rw [h2]
      rintro e w' ⟨rfl, rfl⟩
      go_wp2
      go_ret
      exact ⟨by simp [h, h2], hl⟩
  · go_enter Tryz.func147, Tryz.ntmps147
    go_wp2_with fail
    refine (number_any _ _).mono ?_
    rw [h]
    rintro e w' ⟨rfl, rfl⟩
    go_wp2
    go_ret
    exact ⟨by simp [h], hl⟩
end Go.Proofs.YtkpdmgoldngdaaaGreatDoor

namespace Go.Proofs.YtkpdmgoldngdaaaGreatDoor
open Go.RowKit
set_option maxRecDepth 100000

theorem any_step (rs : List (Int × Int)) (k : Nat) (r : Int × Int) (h : rs[k]? = some r) : ((rs.take (k + 1)).any fun r => !rgB r) = ((rs.take k).any (fun r => !rgB r) || !rgB r) := by
  obtain ⟨hk, rfl⟩ := List.getElem?_eq_some_iff.1 h
  rw [List.take_succ_eq_append_getElem hk, List.any_append]
  simp
theorem any_in (rs : List (Int × Int)) (k : Nat) (r : Int × Int) (h : rs[k]? = some r) (hr : rgB r = false) : (rs.any fun r => !rgB r) = true := by
  rw [List.any_eq_true]
  exact ⟨r, List.mem_of_getElem? h, by rw [hr]; rfl⟩
set_option maxHeartbeats 1000000 in
theorem idx_any (v : Value) (rs : List (Int × Int)) (w : World) (hv : Rgs w v rs) (hn : rs.length ≤ 17592186044416) :
    Calls Tryz.prog 163 #[v, .func (.func 147) #[] #[]] w fun e w' => (∃ i : Int, e = .returned (.int .i64 i) ∧ decide (0 ≤ i) = (rs.any fun r => !rgB r)) ∧ Below w.heap.size w w' := by
  obtain ⟨a, cap, rfl, hc, h⟩ := hv
  have hn' : (rs.length : Int) ≤ 17592186044416 := by omega
  rcases h with rfl | ⟨b, off, rfl, hx⟩
  · go_enter Tryz.func163, Tryz.ntmps163
    go_wp2
    go_loop [8] (fun i => i = .int .i64 0) (fun _ => 0)
    case atStart => rfl
    case round =>
      subst hrel
      go_wp2
      go_ret
      exact ⟨⟨-1, rfl, by decide⟩, Below.refl _ _⟩
  · have HX : Hid (∀ (j : Nat) (r : Int × Int), rs[j]? = some r → w.cell? ⟨b, off + j * 2, none⟩ = some (.int .i64 r.1) ∧ w.cell? ⟨b, off + j * 2 + 1, none⟩ = some (.int .i64 r.2)) := hx
    clear hx
    go_enter Tryz.func163, Tryz.ntmps163
    go_wp2
    go_loopw [8] (fun i W => ∃ k : Nat, k ≤ rs.length ∧ i = .int .i64 k ∧ ((rs.take k).any fun r => !rgB r) = false ∧ Below w.heap.size w W) (fun i _ => rs.length - (intOf i).toNat)
    case atStart => exact ⟨0, Nat.zero_le _, rfl, by simp, Below.refl _ _⟩
    case round =>
      obtain ⟨k, hk, rfl, hno, hbl⟩ := hrel
      by_cases hlt : k < rs.length
      · obtain ⟨r, hr⟩ : ∃ r, rs[k]? = some r := ⟨rs[k], List.getElem?_eq_getElem hlt⟩
        have HS : Hid (((rs.take (k + 1)).any fun r => !rgB r) = ((rs.take k).any (fun r => !rgB r) || !rgB r)) := any_step rs k r hr
        have HI : Hid (rgB r = false → (rs.any fun r => !rgB r) = true) := any_in rs k r hr
        have HN : Hid (((rs.take k).any fun r => !rgB r) = false) := hno
        obtain ⟨x1, x2⟩ := HX.out k r hr
        replace x1 := later hbl x1
        replace x2 := later hbl x2
        have l0 : (0 : Int) ≤ (k : Int) := by omega
        have l1 : (k : Int) < (rs.length : Int) := by omega
        clear hr hno
        rcases Bool.eq_false_or_eq_true (rgB r) with h | h
        · go_wp2_with fail
          refine (wrong_any r _).mono ?_
          rw [h]
          rintro e wa ⟨rfl, hb⟩
          go_wp2
          go_roundw
          case rel => exact ⟨k + 1, by omega, by go_num, by rw [HS.out, HN.out, h]; rfl, bt hbl hb⟩
          case measure => simp [intOf]; omega
        · go_wp2_with fail
          refine (wrong_any r _).mono ?_
          rw [h]
          rintro e wa ⟨rfl, hb⟩
          go_wp2
          go_ret
          exact ⟨⟨k, rfl, by rw [HI.out h]; exact decide_eq_true (by omega)⟩, bt hbl hb⟩
      · have hk' : k = rs.length := by omega
        subst hk'
        rw [List.take_length] at hno
        have HN : Hid ((rs.any fun r => !rgB r) = false) := hno
        clear hno
        go_wp2
        go_ret
        exact ⟨⟨-1, rfl, by rw [HN.out]; rfl⟩, hbl⟩
theorem cont_any (v : Value) (rs : List (Int × Int)) (w : World) (hv : Rgs w v rs) (hn : rs.length ≤ 17592186044416) :
    Calls Tryz.prog 146 #[v, .func (.func 147) #[] #[]] w fun e w' => e = .returned (.bool (rs.any fun r => !rgB r)) ∧ Below w.heap.size w w' := by
  generalize hB : (rs.any fun r => !rgB r) = B
  have hi := idx_any v rs w hv hn
  rw [hB] at hi
  clear hB hv
  go_enter Tryz.func146, Tryz.ntmps146
  go_wp2_with fail
  refine hi.mono ?_
  rintro e wa ⟨⟨i, rfl, hB⟩, hb⟩
  have HB : Hid (decide (0 ≤ i) = B) := hB
  clear hB hi
  go_wp2
  go_ret
  exact ⟨by rw [← HB.out]; simp, hb⟩

set_option maxRecDepth 100000 in
set_option maxHeartbeats 4000000 in
theorem may_any (m c t ec : Int) (sd ok sp : Bool) (v : Value) (rs : List (Int × Int)) (w : World) (hv : Rgs w v rs) (hn : rs.length ≤ 17592186044416) (hG : Ord w) :
    Calls Tryz.prog 118 #[.agg #[.int .i64 m, .int .i64 c, .int .i64 t, .int .i64 ec, .bool sd, .bool ok, .bool sp, v]] w fun e w' => e = .returned (.bool (mayO m c t ec sd ok sp rs)) ∧ Below w.heap.size w w' := by
  obtain ⟨x, cap, hvx, -⟩ := id hv
  subst hvx
  have hA := At.box w (#[.int .i64 m, .int .i64 c, .int .i64 t, .int .i64 ec, .bool sd, .bool ok, .bool sp, .slice x rs.length cap]) 32
  have hl := bel1 w (.cells (#[.int .i64 m, .int .i64 c, .int .i64 t, .int .i64 ec, .bool sd, .bool ok, .bool sp, .slice x rs.length cap]) 32)
  obtain ⟨⟨c0, c1, c2, c3, c4, c5, c6, c7⟩, -, -⟩ := hA.eight
  have HG := hG.later hl
  have HV := hv.later hl
  have hM : mayO m c t ec sd ok sp rs = (fitsB m 65535 && fitsB c 14 && (sd || decide (c = 0)) && numB t && numB ec && (sp || (decide (t = 0) && decide (ec = 0))) && decide ((longN m sd ok sp rs.length : Int) ≤ 40) && !(rs.any fun r => !rgB r)) := by
    unfold mayO
    have e1 : decide (longN m sd ok sp rs.length ≤ 40) = decide ((longN m sd ok sp rs.length : Int) ≤ 40) := decide_eq_decide.2 (by omega)
    rw [e1]
  rw [hM]
  have HL := fun W (h : Ord W) => long_any m c t ec sd ok sp x rs.length cap W hn h
  have HC := fun W (h : Rgs W (.slice x rs.length cap) rs) => cont_any _ rs W h hn
  generalize (rs.any fun r => !rgB r) = B at HC ⊢
  generalize longN m sd ok sp rs.length = L at HL ⊢
  clear hM hv hG hn
  have HLH : Hid (∀ W, Ord W → Calls Tryz.prog 135 #[.agg (#[.int .i64 m, .int .i64 c, .int .i64 t, .int .i64 ec, .bool sd, .bool ok, .bool sp, .slice x rs.length cap])] W fun e w' => e = .returned (.int .i64 (L : Int)) ∧ Below W.heap.size W w') := HL
  have HCH : Hid (∀ W, Rgs W (.slice x rs.length cap) rs → Calls Tryz.prog 146 #[.slice x rs.length cap, .func (.func 147) #[] #[]] W fun e w' => e = .returned (.bool B) ∧ Below W.heap.size W w') := HC
  clear HL HC
  generalize hf1 : fitsB m 65535 = F1
  generalize hf2 : fitsB c 14 = F2
  generalize hf3 : numB t = F3
  generalize hf4 : numB ec = F4
  have Q1 := fun W => fits_any m 65535 W
  have Q2 := fun W => fits_any c 14 W
  have Q3 := fun W => number_any t W
  have Q4 := fun W => number_any ec W
  rw [hf1] at Q1; rw [hf2] at Q2; rw [hf3] at Q3; rw [hf4] at Q4
  clear hf1 hf2 hf3 hf4
  have R1 : Hid (∀ W, Calls Tryz.prog 144 #[.int .i64 m, .int .i64 65535] W fun e w' => e = .returned (.bool F1) ∧ w' = W) := Q1
  have R2 : Hid (∀ W, Calls Tryz.prog 144 #[.int .i64 c, .int .i64 14] W fun e w' => e = .returned (.bool F2) ∧ w' = W) := Q2
  have R3 : Hid (∀ W, Calls Tryz.prog 145 #[.int .i64 t] W fun e w' => e = .returned (.bool F3) ∧ w' = W) := Q3
  have R4 : Hid (∀ W, Calls Tryz.prog 145 #[.int .i64 ec] W fun e w' => e = .returned (.bool F4) ∧ w' = W) := Q4
  clear Q1 Q2 Q3 Q4
  cases F1
  · go_enter Tryz.func118, Tryz.ntmps118
    go_wp2_with fail
    refine (R1.out _).mono ?_
    rintro e w' ⟨rfl, rfl⟩
    go_wp2
    go_ret
    exact ⟨by simp [*], hl⟩
  cases F2
  · go_enter Tryz.func118, Tryz.ntmps118
    go_wp2_with fail
    refine (R1.out _).mono ?_
    rintro e w' ⟨rfl, rfl⟩
    go_wp2_with fail
    refine (R2.out _).mono ?_
    rintro e w' ⟨rfl, rfl⟩
    go_wp2
    go_ret
    exact ⟨by simp [*], hl⟩
  cases sd
  · by_cases hc : c = 0
    · subst hc
      cases F3
      · go_enter Tryz.func118, Tryz.ntmps118
        go_wp2_with fail
        refine (R1.out _).mono ?_
        rintro e w' ⟨rfl, rfl⟩
        go_wp2_with fail
        refine (R2.out _).mono ?_
        rintro e w' ⟨rfl, rfl⟩
        go_wp2_with fail
        refine (R3.out _).mono ?_
        rintro e w' ⟨rfl, rfl⟩
        go_wp2
        go_ret
        exact ⟨by simp [*], hl⟩
      cases F4
      · go_enter Tryz.func118, Tryz.ntmps118
        go_wp2_with fail
        refine (R1.out _).mono ?_
        rintro e w' ⟨rfl, rfl⟩
        go_wp2_with fail
        refine (R2.out _).mono ?_
        rintro e w' ⟨rfl, rfl⟩
        go_wp2_with fail
        refine (R3.out _).mono ?_
        rintro e w' ⟨rfl, rfl⟩
        go_wp2_with fail
        refine (R4.out _).mono ?_
        rintro e w' ⟨rfl, rfl⟩
        go_wp2
        go_ret
        exact ⟨by simp [*], hl⟩
      cases sp
      · by_cases ht : t = 0
        · subst ht
          by_cases he : ec = 0
          · subst he
            by_cases hL : (L : Int) ≤ 40
            · cases B
              · go_enter Tryz.func118, Tryz.ntmps118
                go_wp2_with fail
                refine (R1.out _).mono ?_
                rintro e w' ⟨rfl, rfl⟩
                go_wp2_with fail
                refine (R2.out _).mono ?_
                rintro e w' ⟨rfl, rfl⟩
                go_wp2_with fail
                refine (R3.out _).mono ?_
                rintro e w' ⟨rfl, rfl⟩
                go_wp2_with fail
                refine (R4.out _).mono ?_
                rintro e w' ⟨rfl, rfl⟩
                go_wp2_with fail
                refine (HLH.out _ HG).mono ?_
                rintro e wa ⟨rfl, hb⟩
                obtain ⟨⟨d0, d1, d2, d3, d4, d5, d6, d7⟩, -, -⟩ := (hA.later hb).eight
                go_wp2_with fail
                refine (HCH.out _ (HV.later hb)).mono ?_
                rintro e wb ⟨rfl, hb2⟩
                go_wp2
                go_ret
                exact ⟨by simp [*], bt (bt hl hb) hb2⟩
              · go_enter Tryz.func118, Tryz.ntmps118
                go_wp2_with fail
                refine (R1.out _).mono ?_
                rintro e w' ⟨rfl, rfl⟩
                go_wp2_with fail
                refine (R2.out _).mono ?_
                rintro e w' ⟨rfl, rfl⟩
                go_wp2_with fail
                refine (R3.out _).mono ?_
                rintro e w' ⟨rfl, rfl⟩
                go_wp2_with fail
                refine (R4.out _).mono ?_
                rintro e w' ⟨rfl, rfl⟩
                go_wp2_with fail
                refine (HLH.out _ HG).mono ?_
                rintro e wa ⟨rfl, hb⟩
                obtain ⟨⟨d0, d1, d2, d3, d4, d5, d6, d7⟩, -, -⟩ := (hA.later hb).eight
                go_wp2_with fail
                refine (HCH.out _ (HV.later hb)).mono ?_
                rintro e wb ⟨rfl, hb2⟩
                go_wp2
                go_ret
                exact ⟨by simp [*], bt (bt hl hb) hb2⟩
            · go_enter Tryz.func118, Tryz.ntmps118
              go_wp2_with fail
              refine (R1.out _).mono ?_
              rintro e w' ⟨rfl, rfl⟩
              go_wp2_with fail
              refine (R2.out _).mono ?_
              rintro e w' ⟨rfl, rfl⟩
              go_wp2_with fail
              refine (R3.out _).mono ?_
              rintro e w' ⟨rfl, rfl⟩
              go_wp2_with fail
              refine (R4.out _).mono ?_
              rintro e w' ⟨rfl, rfl⟩
              go_wp2_with fail
              refine (HLH.out _ HG).mono ?_
              rintro e wa ⟨rfl, hb⟩
              go_wp2
              go_ret
              exact ⟨by simp; intro h; exfalso; omega, bt hl hb⟩
          · go_enter Tryz.func118, Tryz.ntmps118
            go_wp2_with fail
            refine (R1.out _).mono ?_
            rintro e w' ⟨rfl, rfl⟩
            go_wp2_with fail
            refine (R2.out _).mono ?_
            rintro e w' ⟨rfl, rfl⟩
            go_wp2_with fail
            refine (R3.out _).mono ?_
            rintro e w' ⟨rfl, rfl⟩
            go_wp2_with fail
            refine (R4.out _).mono ?_
            rintro e w' ⟨rfl, rfl⟩
            go_wp2
            go_ret
            exact ⟨by simp [*], hl⟩
        · go_enter Tryz.func118, Tryz.ntmps118
          go_wp2_with fail
          refine (R1.out _).mono ?_
          rintro e w' ⟨rfl, rfl⟩
          go_wp2_with fail
          refine (R2.out _).mono ?_
          rintro e w' ⟨rfl, rfl⟩
          go_wp2_with fail
          refine (R3.out _).mono ?_
          rintro e w' ⟨rfl, rfl⟩
          go_wp2_with fail
          refine (R4.out _).mono ?_
          rintro e w' ⟨rfl, rfl⟩
          go_wp2
          go_ret
          exact ⟨by simp [*], hl⟩
      · skip
        by_cases hL : (L : Int) ≤ 40
        · cases B
          · go_enter Tryz.func118, Tryz.ntmps118
            go_wp2_with fail
            refine (R1.out _).mono ?_
            rintro e w' ⟨rfl, rfl⟩
            go_wp2_with fail
            refine (R2.out _).mono ?_
            rintro e w' ⟨rfl, rfl⟩
            go_wp2_with fail
            refine (R3.out _).mono ?_
            rintro e w' ⟨rfl, rfl⟩
            go_wp2_with fail
            refine (R4.out _).mono ?_
            rintro e w' ⟨rfl, rfl⟩
            go_wp2_with fail
            refine (HLH.out _ HG).mono ?_
            rintro e wa ⟨rfl, hb⟩
            obtain ⟨⟨d0, d1, d2, d3, d4, d5, d6, d7⟩, -, -⟩ := (hA.later hb).eight
            go_wp2_with fail
            refine (HCH.out _ (HV.later hb)).mono ?_
            rintro e wb ⟨rfl, hb2⟩
            go_wp2
            go_ret
            exact ⟨by simp [*], bt (bt hl hb) hb2⟩
          · go_enter Tryz.func118, Tryz.ntmps118
            go_wp2_with fail
            refine (R1.out _).mono ?_
            rintro e w' ⟨rfl, rfl⟩
            go_wp2_with fail
            refine (R2.out _).mono ?_
            rintro e w' ⟨rfl, rfl⟩
            go_wp2_with fail
            refine (R3.out _).mono ?_
            rintro e w' ⟨rfl, rfl⟩
            go_wp2_with fail
            refine (R4.out _).mono ?_
            rintro e w' ⟨rfl, rfl⟩
            go_wp2_with fail
            refine (HLH.out _ HG).mono ?_
            rintro e wa ⟨rfl, hb⟩
            obtain ⟨⟨d0, d1, d2, d3, d4, d5, d6, d7⟩, -, -⟩ := (hA.later hb).eight
            go_wp2_with fail
            refine (HCH.out _ (HV.later hb)).mono ?_
            rintro e wb ⟨rfl, hb2⟩
            go_wp2
            go_ret
            exact ⟨by simp [*], bt (bt hl hb) hb2⟩
        · go_enter Tryz.func118, Tryz.ntmps118
          go_wp2_with fail
          refine (R1.out _).mono ?_
          rintro e w' ⟨rfl, rfl⟩
          go_wp2_with fail
          refine (R2.out _).mono ?_
          rintro e w' ⟨rfl, rfl⟩
          go_wp2_with fail
          refine (R3.out _).mono ?_
          rintro e w' ⟨rfl, rfl⟩
          go_wp2_with fail
          refine (R4.out _).mono ?_
          rintro e w' ⟨rfl, rfl⟩
          go_wp2_with fail
          refine (HLH.out _ HG).mono ?_
          rintro e wa ⟨rfl, hb⟩
          go_wp2
          go_ret
          exact ⟨by simp; intro h; exfalso; omega, bt hl hb⟩
    · go_enter Tryz.func118, Tryz.ntmps118
      go_wp2_with fail
      refine (R1.out _).mono ?_
      rintro e w' ⟨rfl, rfl⟩
      go_wp2_with fail
      refine (R2.out _).mono ?_
      rintro e w' ⟨rfl, rfl⟩
      go_wp2
      go_ret
      exact ⟨by simp [*], hl⟩
  · skip
    cases F3
    · go_enter Tryz.func118, Tryz.ntmps118
      go_wp2_with fail
      refine (R1.out _).mono ?_
      rintro e w' ⟨rfl, rfl⟩
      go_wp2_with fail
      refine (R2.out _).mono ?_
      rintro e w' ⟨rfl, rfl⟩
      go_wp2_with fail
      refine (R3.out _).mono ?_
      rintro e w' ⟨rfl, rfl⟩
      go_wp2
      go_ret
      exact ⟨by simp [*], hl⟩
    cases F4
    · go_enter Tryz.func118, Tryz.ntmps118
      go_wp2_with fail
      refine (R1.out _).mono ?_
      rintro e w' ⟨rfl, rfl⟩
      go_wp2_with fail
      refine (R2.out _).mono ?_
      rintro e w' ⟨rfl, rfl⟩
      go_wp2_with fail
      refine (R3.out _).mono ?_
      rintro e w' ⟨rfl, rfl⟩
      go_wp2_with fail
      refine (R4.out _).mono ?_
      rintro e w' ⟨rfl, rfl⟩
      go_wp2
      go_ret
      exact ⟨by simp [*], hl⟩
    cases sp
    · by_cases ht : t = 0
      · subst ht
        by_cases he : ec = 0
        · subst he
          by_cases hL : (L : Int) ≤ 40
          · cases B
            · go_enter Tryz.func118, Tryz.ntmps118
              go_wp2_with fail
              refine (R1.out _).mono ?_
              rintro e w' ⟨rfl, rfl⟩
              go_wp2_with fail
              refine (R2.out _).mono ?_
              rintro e w' ⟨rfl, rfl⟩
              go_wp2_with fail
              refine (R3.out _).mono ?_
              rintro e w' ⟨rfl, rfl⟩
              go_wp2_with fail
              refine (R4.out _).mono ?_
              rintro e w' ⟨rfl, rfl⟩
              go_wp2_with fail
              refine (HLH.out _ HG).mono ?_
              rintro e wa ⟨rfl, hb⟩
              obtain ⟨⟨d0, d1, d2, d3, d4, d5, d6, d7⟩, -, -⟩ := (hA.later hb).eight
              go_wp2_with fail
              refine (HCH.out _ (HV.later hb)).mono ?_
              rintro e wb ⟨rfl, hb2⟩
              go_wp2
              go_ret
              exact ⟨by simp [*], bt (bt hl hb) hb2⟩
            · go_enter Tryz.func118, Tryz.ntmps118
              go_wp2_with fail
              refine (R1.out _).mono ?_
              rintro e w' ⟨rfl, rfl⟩
              go_wp2_with fail
              refine (R2.out _).mono ?_
              rintro e w' ⟨rfl, rfl⟩
              go_wp2_with fail
              refine (R3.out _).mono ?_
              rintro e w' ⟨rfl, rfl⟩
              go_wp2_with fail
              refine (R4.out _).mono ?_
              rintro e w' ⟨rfl, rfl⟩
              go_wp2_with fail
              refine (HLH.out _ HG).mono ?_
              rintro e wa ⟨rfl, hb⟩
              obtain ⟨⟨d0, d1, d2, d3, d4, d5, d6, d7⟩, -, -⟩ := (hA.later hb).eight
              go_wp2_with fail
              refine (HCH.out _ (HV.later hb)).mono ?_
              rintro e wb ⟨rfl, hb2⟩
              go_wp2
              go_ret
              exact ⟨by simp [*], bt (bt hl hb) hb2⟩
          · go_enter Tryz.func118, Tryz.ntmps118
            go_wp2_with fail
            refine (R1.out _).mono ?_
            rintro e w' ⟨rfl, rfl⟩
            go_wp2_with fail
            refine (R2.out _).mono ?_
            rintro e w' ⟨rfl, rfl⟩
            go_wp2_with fail
            refine (R3.out _).mono ?_
            rintro e w' ⟨rfl, rfl⟩
            go_wp2_with fail
            refine (R4.out _).mono ?_
            rintro e w' ⟨rfl, rfl⟩
            go_wp2_with fail
            refine (HLH.out _ HG).mono ?_
            rintro e wa ⟨rfl, hb⟩
            go_wp2
            go_ret
            exact ⟨by simp; intro h; exfalso; omega, bt hl hb⟩
        · go_enter Tryz.func118, Tryz.ntmps118
          go_wp2_with fail
          refine (R1.out _).mono ?_
          rintro e w' ⟨rfl, rfl⟩
          go_wp2_with fail
          refine (R2.out _).mono ?_
          rintro e w' ⟨rfl, rfl⟩
          go_wp2_with fail
          refine (R3.out _).mono ?_
          rintro e w' ⟨rfl, rfl⟩
          go_wp2_with fail
          refine (R4.out _).mono ?_
          rintro e w' ⟨rfl, rfl⟩
          go_wp2
          go_ret
          exact ⟨by simp [*], hl⟩
      · go_enter Tryz.func118, Tryz.ntmps118
        go_wp2_with fail
        refine (R1.out _).mono ?_
        rintro e w' ⟨rfl, rfl⟩
        go_wp2_with fail
        refine (R2.out _).mono ?_
        rintro e w' ⟨rfl, rfl⟩
        go_wp2_with fail
        refine (R3.out _).mono ?_
        rintro e w' ⟨rfl, rfl⟩
        go_wp2_with fail
        refine (R4.out _).mono ?_
        rintro e w' ⟨rfl, rfl⟩
        go_wp2
        go_ret
        exact ⟨by simp [*], hl⟩
    · skip
      by_cases hL : (L : Int) ≤ 40
      · cases B
        · go_enter Tryz.func118, Tryz.ntmps118
          go_wp2_with fail
          refine (R1.out _).mono ?_
          rintro e w' ⟨rfl, rfl⟩
          go_wp2_with fail
          refine (R2.out _).mono ?_
          rintro e w' ⟨rfl, rfl⟩
          go_wp2_with fail
          refine (R3.out _).mono ?_
          rintro e w' ⟨rfl, rfl⟩
          go_wp2_with fail
          refine (R4.out _).mono ?_
          rintro e w' ⟨rfl, rfl⟩
          go_wp2_with fail
          refine (HLH.out _ HG).mono ?_
          rintro e wa ⟨rfl, hb⟩
          obtain ⟨⟨d0, d1, d2, d3, d4, d5, d6, d7⟩, -, -⟩ := (hA.later hb).eight
          go_wp2_with fail
          refine (HCH.out _ (HV.later hb)).mono ?_
          rintro e wb ⟨rfl, hb2⟩
          go_wp2
          go_ret
          exact ⟨by simp [*], bt (bt hl hb) hb2⟩
        · go_enter Tryz.func118, Tryz.ntmps118
          go_wp2_with fail
          refine (R1.out _).mono ?_
          rintro e w' ⟨rfl, rfl⟩
          go_wp2_with fail
          refine (R2.out _).mono ?_
          rintro e w' ⟨rfl, rfl⟩
          go_wp2_with fail
          refine (R3.out _).mono ?_
          rintro e w' ⟨rfl, rfl⟩
          go_wp2_with fail
          refine (R4.out _).mono ?_
          rintro e w' ⟨rfl, rfl⟩
          go_wp2_with fail
          refine (HLH.out _ HG).mono ?_
          rintro e wa ⟨rfl, hb⟩
          obtain ⟨⟨d0, d1, d2, d3, d4, d5, d6, d7⟩, -, -⟩ := (hA.later hb).eight
          go_wp2_with fail
          refine (HCH.out _ (HV.later hb)).mono ?_
          rintro e wb ⟨rfl, hb2⟩
          go_wp2
          go_ret
          exact ⟨by simp [*], bt (bt hl hb) hb2⟩
      · go_enter Tryz.func118, Tryz.ntmps118
        go_wp2_with fail
        refine (R1.out _).mono ?_
        rintro e w' ⟨rfl, rfl⟩
        go_wp2_with fail
        refine (R2.out _).mono ?_
        rintro e w' ⟨rfl, rfl⟩
        go_wp2_with fail
        refine (R3.out _).mono ?_
        rintro e w' ⟨rfl, rfl⟩
        go_wp2_with fail
        refine (R4.out _).mono ?_
        rintro e w' ⟨rfl, rfl⟩
        go_wp2_with fail
        refine (HLH.out _ HG).mono ?_
        rintro e wa ⟨rfl, hb⟩
        go_wp2
        go_ret
        exact ⟨by simp; intro h; exfalso; omega, bt hl hb⟩
theorem check_o (m c t ec : Int) (sd ok sp : Bool) (v : Value) (rs : List (Int × Int)) (w : World) (hv : Rgs w v rs) (hn : rs.length ≤ 17592186044416) (hG : Ord w) :
    Calls Tryz.prog 86 #[.agg #[.int .i64 m, .int .i64 c, .int .i64 t, .int .i64 ec, .bool sd, .bool ok, .bool sp, v]] w fun e w' => e = .returned (.int .i64 (codeO (mayO m c t ec sd ok sp rs))) ∧ Below w.heap.size w w' := by
  obtain ⟨⟨c0, c1, c2, c3, c4, c5, c6, c7⟩, -, -⟩ := (At.box w #[.int .i64 m, .int .i64 c, .int .i64 t, .int .i64 ec, .bool sd, .bool ok, .bool sp, v] 32).eight
  have hl := bel1 w (.cells #[.int .i64 m, .int .i64 c, .int .i64 t, .int .i64 ec, .bool sd, .bool ok, .bool sp, v] 32)
  have hM := may_any m c t ec sd ok sp v rs _ (hv.later hl) hn (hG.later hl)
  rcases Bool.eq_false_or_eq_true (mayO m c t ec sd ok sp rs) with h | h
  all_goals
    rw [h] at hM ⊢
    go_enter Tryz.func86, Tryz.ntmps86
    go_wp2_with fail
    refine hM.mono ?_
    rintro e wa ⟨rfl, hb⟩
    go_wp2
    go_ret
    exact ⟨rfl, bt hl hb⟩
end Go.Proofs.YtkpdmgoldngdaaaGreatDoor

namespace Go.Proofs.YtkpdmgoldngdaaaGreatDoor
open Go.RowKit
set_option maxRecDepth 100000

theorem app_data (a b : ByteArray) : (a ++ b).data.toList = a.data.toList ++ b.data.toList := by rw [ByteArray.data_append, Array.toList_append]
def rgL (rs : List (Int × Int)) : List UInt8 := rs.flatMap fun r => txtL r.1 4 ++ txtL r.2 4
def rgS (rs : List (Int × Int)) : ByteArray := ⟨(rgL rs).toArray⟩
theorem txtL_length (n : Int) (k : Nat) : (txtL n k).length = k := by simp [txtL]
theorem rgL_len (rs : List (Int × Int)) : (rgL rs).length = rs.length * 8 := by
  induction rs with
  | nil => rfl
  | cons r rs ih =>
    have : rgL (r :: rs) = txtL r.1 4 ++ txtL r.2 4 ++ rgL rs := rfl
    rw [this, List.length_append, List.length_append, txtL_length, txtL_length, ih, List.length_cons]; omega
theorem rgS_size (rs : List (Int × Int)) : (rgS rs).size = rs.length * 8 := by rw [← rgL_len]; rfl
theorem rgS_step (rs : List (Int × Int)) (k : Nat) (r : Int × Int) (h : rs[k]? = some r) : rgS (rs.take (k + 1)) = rgS (rs.take k) ++ (txt r.1 4 ++ txt r.2 4) := by
  obtain ⟨hk, rfl⟩ := List.getElem?_eq_some_iff.1 h
  apply ba_toList
  rw [app_data, app_data, txt_toList, txt_toList]
  show rgL (rs.take (k + 1)) = rgL (rs.take k) ++ _
  unfold rgL
  rw [List.take_succ_eq_append_getElem hk, List.flatMap_append, List.flatMap_singleton]
def partL (m c t ec : Int) (sd ok sp : Bool) (rs : List (Int × Int)) (k : Nat) : List UInt8 := match k with
  | 0 => if m ≠ 0 then 2 :: 4 :: txtL m 2 else []
  | 1 => if sd = true then 3 :: 3 :: txtL c 1 else []
  | 2 => if ok = true then [4, 2] else []
  | 3 => if sp = true then 8 :: 10 :: (txtL t 4 ++ txtL ec 4) else []
  | 4 => if 0 < rs.length then 5 :: (txtL (2 + rs.length * 8) 1 ++ rgL rs) else []
  | _ => []
def bareL (m c t ec : Int) (sd ok sp : Bool) (rs : List (Int × Int)) (k : Nat) : List UInt8 := (List.range k).flatMap (partL m c t ec sd ok sp rs)
def bareS (m c t ec : Int) (sd ok sp : Bool) (rs : List (Int × Int)) (k : Nat) : ByteArray := ⟨(bareL m c t ec sd ok sp rs k).toArray⟩
def encL (m c t ec : Int) (sd ok sp : Bool) (rs : List (Int × Int)) : List UInt8 := bareL m c t ec sd ok sp rs 5 ++ List.replicate (longN m sd ok sp rs.length - lenK m sd ok sp rs.length 5) 0
def encO (m c t ec : Int) (sd ok sp : Bool) (rs : List (Int × Int)) : ByteArray := ⟨(encL m c t ec sd ok sp rs).toArray⟩
theorem bareS_step (m c t ec : Int) (sd ok sp : Bool) (rs : List (Int × Int)) (k : Nat) : bareS m c t ec sd ok sp rs (k + 1) = bareS m c t ec sd ok sp rs k ++ ⟨(partL m c t ec sd ok sp rs k).toArray⟩ := by
  apply ba_toList
  rw [app_data]
  show bareL m c t ec sd ok sp rs (k + 1) = bareL m c t ec sd ok sp rs k ++ _
  unfold bareL
  rw [List.range_succ, List.flatMap_append]
  simp
theorem bareS_no (m c t ec : Int) (sd ok sp : Bool) (rs : List (Int × Int)) (k : Nat) (h : partL m c t ec sd ok sp rs k = []) : bareS m c t ec sd ok sp rs (k + 1) = bareS m c t ec sd ok sp rs k := by
  rw [bareS_step, h]; apply ba_toList; rw [app_data]; simp
theorem bareS_yes (m c t ec : Int) (sd ok sp : Bool) (rs : List (Int × Int)) (k : Nat) (x : ByteArray) (h : partL m c t ec sd ok sp rs k = x.data.toList) : bareS m c t ec sd ok sp rs (k + 1) = bareS m c t ec sd ok sp rs k ++ x := by
  rw [bareS_step, h]
theorem bareL_len (m c t ec : Int) (sd ok sp : Bool) (rs : List (Int × Int)) : (bareL m c t ec sd ok sp rs 5).length = lenK m sd ok sp rs.length 5 := by
  have e : List.range 5 = [0, 1, 2, 3, 4] := rfl
  unfold bareL lenK
  rw [e]
  by_cases h0 : m = 0 <;> cases sd <;> cases ok <;> cases sp <;> by_cases h4 : 0 < rs.length <;> simp [partL, h0, h4, txtL_length, rgL_len] <;> omega
theorem bareS_size (m c t ec : Int) (sd ok sp : Bool) (rs : List (Int × Int)) : (bareS m c t ec sd ok sp rs 5).size = lenK m sd ok sp rs.length 5 := by rw [← bareL_len m c t ec sd ok sp rs]; rfl
theorem bareL_le (m c t ec : Int) (sd ok sp : Bool) (rs : List (Int × Int)) (k : Nat) (hk : k ≤ 5) : (bareL m c t ec sd ok sp rs k).length ≤ lenK m sd ok sp rs.length 5 := by
  rw [← bareL_len m c t ec sd ok sp rs]
  have e : List.range 5 = List.range k ++ (List.range (5 - k)).map (k + ·) := by rw [← List.range_add]; congr 1; omega
  unfold bareL
  rw [e, List.flatMap_append, List.length_append]
  omega
theorem bareS_le (m c t ec : Int) (sd ok sp : Bool) (rs : List (Int × Int)) (k : Nat) (hk : k ≤ 5) : (bareS m c t ec sd ok sp rs k).size ≤ lenK m sd ok sp rs.length 5 := bareL_le m c t ec sd ok sp rs k hk
theorem long_ge (m : Int) (sd ok sp : Bool) (n : Nat) : lenK m sd ok sp n 5 ≤ longN m sd ok sp n ∧ longN m sd ok sp n ≤ lenK m sd ok sp n 5 + 3 := by unfold longN; omega
theorem encO_size (m c t ec : Int) (sd ok sp : Bool) (rs : List (Int × Int)) : (encO m c t ec sd ok sp rs).size = longN m sd ok sp rs.length := by
  have h := long_ge m sd ok sp rs.length
  show (encL m c t ec sd ok sp rs).length = _
  unfold encL
  rw [List.length_append, bareL_len, List.length_replicate]
  omega

theorem mayO_t {m c t ec : Int} {sd ok sp : Bool} {rs : List (Int × Int)} (h : mayO m c t ec sd ok sp rs = true) : (0 ≤ m ∧ m ≤ 65535) ∧ (0 ≤ c ∧ c ≤ 14) ∧ (sd = true ∨ c = 0) ∧ (0 ≤ t ∧ t ≤ 4294967295) ∧ (0 ≤ ec ∧ ec ≤ 4294967295) ∧ (sp = true ∨ t = 0 ∧ ec = 0) ∧ longN m sd ok sp rs.length ≤ 40 ∧ ∀ r ∈ rs, rgB r = true := by
  unfold mayO fitsB numB at h
  simp only [Bool.and_eq_true, decide_eq_true_eq, Bool.or_eq_true, Bool.not_eq_true', List.any_eq_false] at h
  obtain ⟨⟨⟨⟨⟨⟨⟨h1, h2⟩, h3⟩, h4⟩, h5⟩, h6⟩, h7⟩, h8⟩ := h
  refine ⟨h1, h2, h3, h4, h5, h6, h7, fun r hr => ?_⟩
  have := h8 r hr
  simpa using this
theorem mayO_short {m c t ec : Int} {sd ok sp : Bool} {rs : List (Int × Int)} (h : mayO m c t ec sd ok sp rs = true) : rs.length ≤ 4 := by
  have h7 := (mayO_t h).2.2.2.2.2.2.1
  have := lenK_le m sd ok sp rs.length 5
  unfold longN at h7
  apply Classical.byContradiction
  intro hn
  have h5 : lenK m sd ok sp rs.length 5 ≤ 40 := by omega
  have h6 : rs.length * 8 + 2 ≤ lenK m sd ok sp rs.length 5 := by
    unfold lenK
    rw [if_pos (show 4 < 5 ∧ 0 < rs.length by omega)]
    omega
  omega

theorem keepT {w W x : World} {a b : Addr} {p q : Value} (hb : Below W.heap.size W x) (h : Below w.heap.size w W ∧ W.cell? a = some p ∧ W.cell? b = some q) : Below w.heap.size w x ∧ x.cell? a = some p ∧ x.cell? b = some q :=
  ⟨bt h.1 hb, later hb h.2.1, later hb h.2.2⟩
end Go.Proofs.YtkpdmgoldngdaaaGreatDoor

namespace Go.Proofs.YtkpdmgoldngdaaaGreatDoor
open Go.RowKit
set_option maxRecDepth 100000
theorem own_set8 {w : World} {base : Nat} {e : TypeId} {size n : Nat} {v : Value} {xs : List Value} (h : w.ownsRow base e size v n xs) (b : Nat) (hb : b < base) (u0 u1 u2 u3 u4 u5 u6 u7 : Value) : ((((((((w.setCell ⟨b, 0, none⟩ u0).setCell ⟨b, 1, none⟩ u1).setCell ⟨b, 2, none⟩ u2).setCell ⟨b, 3, none⟩ u3).setCell ⟨b, 4, none⟩ u4).setCell ⟨b, 5, none⟩ u5).setCell ⟨b, 6, none⟩ u6).setCell ⟨b, 7, none⟩ u7).ownsRow base e size v n xs :=
  own_setCell (own_setCell (own_setCell (own_setCell (own_setCell (own_setCell (own_setCell (own_setCell h b 0 _ hb) b 1 _ hb) b 2 _ hb) b 3 _ hb) b 4 _ hb) b 5 _ hb) b 6 _ hb) b 7 _ hb
theorem Tryz.info148 : (Tryz.prog.info? 148).map (fun i => (i.zero, i.size, i.bytes)) = some (some (.agg #[.int .i64 0, .int .i64 0]), 2, 16) := by kernel_rfl
end Go.Proofs.YtkpdmgoldngdaaaGreatDoor

namespace Go.Proofs.YtkpdmgoldngdaaaGreatDoor
open Go.RowKit
set_option maxRecDepth 100000
def pairsL (b : List UInt8) : List (Int × Int) := (List.range (b.length / 8)).map fun i => (numL ((b.drop (i * 8)).take 4), numL ((b.drop (i * 8 + 4)).take 4))
def followsB (o : Op) (kind : Int) (n : Nat) : Bool :=
  if kind = 5 then decide (n ≠ 0 ∧ n % 8 = 0) && decide (o.rs.length = 0)
  else if kind = 2 then decide (n = 2) && !(o.m != 0)
  else if kind = 3 then decide (n = 1) && !o.sd
  else if kind = 4 then decide (n = 0) && !o.ok
  else if kind = 8 then decide (n = 8) && !o.sp
  else true
def takeO (o : Op) (kind : Int) (b : List UInt8) : Op :=
  if kind = 5 then { o with rs := pairsL b }
  else if kind = 2 then { o with m := numL b }
  else if kind = 3 then { o with sd := true, c := numL b }
  else if kind = 4 then { o with ok := true }
  else if kind = 8 then { o with sp := true, t := numL (b.take 4), ec := numL (b.drop 4) }
  else o
def saysB (kind : Int) (b : List UInt8) : Bool := !(decide (kind = 2) && decide (numL b = 0))
def stepO (o : Op) (kind : Int) (b : List UInt8) : Option Op := if (followsB o kind b.length && saysB kind b) = true then some (takeO o kind b) else none
def runO : Nat → List UInt8 → Op → Option Op
  | 0, _, o => some o
  | _ + 1, [], o => some o
  | f + 1, k :: l, o =>
    if k = 0 then some o else if k = 1 then runO f l o else
      match l with
      | [] => none
      | n :: l' => if n.toNat < 2 ∨ l'.length + 2 < n.toNat then none else match stepO o (k.toNat : Int) (l'.take (n.toNat - 2)) with
        | none => none
        | some o' => runO f (l'.drop (n.toNat - 2)) o'
def Op.may (o : Op) : Bool := mayO o.m o.c o.t o.ec o.sd o.ok o.sp o.rs
def decO (l : List UInt8) : Option Op := if 40 < l.length then none else match runO 41 l Op.zero with
  | none => none
  | some o => if o.may = true then some o else none
theorem runO_fuel : ∀ (f : Nat) (l : List UInt8) (o : Op) (g : Nat), l.length < f → l.length < g → runO f l o = runO g l o
  | 0, l, _, _, h, _ => absurd h (Nat.not_lt_zero _)
  | f + 1, [], o, g, _, h => by
    cases g with
    | zero => exact absurd h (Nat.not_lt_zero _)
    | succ g => rfl
  | f + 1, k :: l, o, g, h1, h2 => by
    cases g with
    | zero => exact absurd h2 (Nat.not_lt_zero _)
    | succ g =>
      simp only [List.length_cons] at h1 h2
      simp only [runO]
      by_cases e0 : k = 0
      · rw [if_pos e0, if_pos e0]
      · rw [if_neg e0, if_neg e0]
        by_cases e1 : k = 1
        · rw [if_pos e1, if_pos e1]; exact runO_fuel f l o g (by omega) (by omega)
        · rw [if_neg e1, if_neg e1]
          cases l with
          | nil => rfl
          | cons n l' =>
            simp only [List.length_cons] at h1 h2
            simp only
            by_cases e2 : n.toNat < 2 ∨ l'.length + 2 < n.toNat
            · rw [if_pos e2, if_pos e2]
            · rw [if_neg e2, if_neg e2]
              cases stepO o (k.toNat : Int) (l'.take (n.toNat - 2)) with
              | none => rfl
              | some o' => exact runO_fuel f _ o' g (by rw [List.length_drop]; omega) (by rw [List.length_drop]; omega)

theorem get_o (s : ByteArray) (off k : Int) (w : World) (hs : s.size ≤ maxLen) : Calls Tryz.prog 143 #[.string s, .int .i64 off, .int .i64 k] w fun e w' => e = .returned (.int .i64 (getV s off k)) ∧ Below w.heap.size w w' := by
  go_enter Tryz.func143, Tryz.ntmps143
  go_wp2_with fail
  refine (get_any _ _ _ _ hs).mono ?_
  rintro e w' ⟨rfl, hb⟩
  go_wp2
  go_ret
  exact ⟨rfl, hb⟩
theorem getV_t (s : ByteArray) (off k : Nat) (k1 : 1 ≤ k) (k6 : k ≤ 6) (h : off + k ≤ s.size) : getV s off k = numL ((s.data.toList.drop off).take k) := by
  unfold getV getB
  rw [if_pos (decide_eq_true ⟨by omega, by omega, by omega, by omega⟩)]
  unfold numS
  congr 1
  rw [show ((off : Int)).toNat = off by omega, show ((off : Int) + (k : Int)).toNat = off + k by omega]
  rw [ByteArray.data_extract, Array.toList_extract, List.extract_eq_take_drop]
  congr 1
  omega
def firstB (s : ByteArray) : Bool := decide (2 ≤ s.size ∧ 2 ≤ (s.data.toList.getD 1 0).toNat ∧ (s.data.toList.getD 1 0).toNat ≤ s.size)
def firstN (s : ByteArray) : Nat := (s.data.toList.getD 1 0).toNat
theorem byte1 (s : ByteArray) (h : 1 < s.size) : (s[1].toNat : Int) = (firstN s : Int) := by
  unfold firstN
  have h' : 1 < s.data.toList.length := by simpa using h
  rw [List.getD_eq_getElem?_getD, List.getElem?_eq_getElem h']
  rfl
theorem first_t (s : ByteArray) (w : World) (hs : s.size ≤ 40) (h : firstB s = true) : Calls Tryz.prog 115 #[.string s] w fun e w' => e = .returned (.tuple #[.string (s.extract 2 (firstN s)), .bool true]) ∧ w' = w := by
  unfold firstB at h
  obtain ⟨h1, h2, h3⟩ := of_decide_eq_true h
  have hb := byte1 s (by omega)
  have h2' : 2 ≤ firstN s := h2
  have h3' : firstN s ≤ s.size := h3
  have g1 : (2 : Int) ≤ (s.size : Int) := by omega
  have g2 : (s.size : Int) ≤ 40 := by omega
  have g3 : (2 : Int) ≤ (firstN s : Int) := by omega
  have g4 : (firstN s : Int) ≤ (s.size : Int) := by omega
  have g5 : (1 : Int) < (s.size : Int) := by omega
  generalize firstN s = n at *
  clear h h2 h3 h2' h3'
  go_enter Tryz.func115, Tryz.ntmps115
  go_wp2
  go_ret2
  exact ⟨rfl, rfl⟩
theorem first_f (s : ByteArray) (w : World) (hs : s.size ≤ 40) (h : firstB s = false) : Calls Tryz.prog 115 #[.string s] w fun e w' => e = .returned (.tuple #[.string ⟨#[]⟩, .bool false]) ∧ w' = w := by
  unfold firstB at h
  have h := of_decide_eq_false h
  have g2 : (s.size : Int) ≤ 40 := by omega
  by_cases h1 : 2 ≤ s.size
  · have hb := byte1 s (by omega)
    have g1 : (2 : Int) ≤ (s.size : Int) := by omega
    have g5 : (1 : Int) < (s.size : Int) := by omega
    have g6 : firstN s < 2 ∨ s.size < firstN s := by
      unfold firstN
      omega
    have g9 : (firstN s : Int) ≤ 255 := by unfold firstN; have := (s.data.toList.getD 1 0).toNat_lt; omega
    generalize firstN s = n at *
    clear h
    rcases g6 with g6 | g6
    · have g7 : (n : Int) < 2 := by omega
      go_enter Tryz.func115, Tryz.ntmps115
      go_wp2
      go_ret2
      exact ⟨rfl, rfl⟩
    · have g7 : (s.size : Int) < (n : Int) := by omega
      by_cases g8 : (n : Int) < 2
      · exfalso; omega
      · go_enter Tryz.func115, Tryz.ntmps115
        go_wp2
        go_ret2
        exact ⟨rfl, rfl⟩
  · have g1 : (s.size : Int) < 2 := by omega
    go_enter Tryz.func115, Tryz.ntmps115
    go_wp2
    go_ret2
    exact ⟨rfl, rfl⟩
theorem follows_2 (m c t ec : Int) (sd ok sp : Bool) (a : Option Addr) (cap : Nat) (rs : List (Int × Int)) (n : Nat) (w : World) (hn : n ≤ 40) :
    Calls Tryz.prog 116 #[.agg #[.int .i64 m, .int .i64 c, .int .i64 t, .int .i64 ec, .bool sd, .bool ok, .bool sp, (.slice a rs.length cap)], .int .i64 2, .int .i64 n] w fun e w' => e = .returned (.bool (decide (n = 2) && !(m != 0))) ∧ Below w.heap.size w w' := by
  have hA := At.box w #[.int .i64 m, .int .i64 c, .int .i64 t, .int .i64 ec, .bool sd, .bool ok, .bool sp, (.slice a rs.length cap)] 32
  have hl := bel1 w (.cells #[.int .i64 m, .int .i64 c, .int .i64 t, .int .i64 ec, .bool sd, .bool ok, .bool sp, (.slice a rs.length cap)] 32)
  obtain ⟨⟨c0, c1, c2, c3, c4, c5, c6, c7⟩, -, -⟩ := hA.eight
  have hn' : (n : Int) ≤ 40 := by omega
  by_cases h : n = 2
  · subst h
    rcases Bool.eq_false_or_eq_true (m != 0) with hh | hh
    all_goals
      have hq := fun W => has_2 m c t ec sd ok sp a rs.length cap W
      rw [hh] at hq
      rw [hh]
      have HQ : Hid (∀ W, Calls Tryz.prog 131 #[.agg #[.int .i64 m, .int .i64 c, .int .i64 t, .int .i64 ec, .bool sd, .bool ok, .bool sp, (.slice a rs.length cap)], .int .i64 2] W fun e w' => e = .returned (.bool _) ∧ Below W.heap.size W w') := hq
      clear hh hq
      go_enter Tryz.func116, Tryz.ntmps116
      go_wp2_with fail
      refine (fixed_2 _).mono ?_
      rintro e w1 ⟨rfl, rfl⟩
      go_wp2_with fail
      refine (HQ.out _).mono ?_
      rintro e w2 ⟨rfl, hb⟩
      go_wp2
      go_ret
      exact ⟨rfl, bt hl hb⟩
  · have hne : ¬ (n : Int) = 2 := by omega
    rw [decide_eq_false h, Bool.false_and]
    clear h
    go_enter Tryz.func116, Tryz.ntmps116
    go_wp2_with fail
    refine (fixed_2 _).mono ?_
    rintro e w1 ⟨rfl, rfl⟩
    go_wp2
    go_ret
    exact ⟨rfl, hl⟩
theorem follows_3 (m c t ec : Int) (sd ok sp : Bool) (a : Option Addr) (cap : Nat) (rs : List (Int × Int)) (n : Nat) (w : World) (hn : n ≤ 40) :
    Calls Tryz.prog 116 #[.agg #[.int .i64 m, .int .i64 c, .int .i64 t, .int .i64 ec, .bool sd, .bool ok, .bool sp, (.slice a rs.length cap)], .int .i64 3, .int .i64 n] w fun e w' => e = .returned (.bool (decide (n = 1) && !(sd))) ∧ Below w.heap.size w w' := by
  have hA := At.box w #[.int .i64 m, .int .i64 c, .int .i64 t, .int .i64 ec, .bool sd, .bool ok, .bool sp, (.slice a rs.length cap)] 32
  have hl := bel1 w (.cells #[.int .i64 m, .int .i64 c, .int .i64 t, .int .i64 ec, .bool sd, .bool ok, .bool sp, (.slice a rs.length cap)] 32)
  obtain ⟨⟨c0, c1, c2, c3, c4, c5, c6, c7⟩, -, -⟩ := hA.eight
  have hn' : (n : Int) ≤ 40 := by omega
  by_cases h : n = 1
  · subst h
    cases sd
    all_goals
      go_enter Tryz.func116, Tryz.ntmps116
      go_wp2_with fail
      refine (fixed_3 _).mono ?_
      rintro e w1 ⟨rfl, rfl⟩
      go_wp2_with fail
      refine (has_3 _ _ _ _ _ _ _ _ _ _ _).mono ?_
      rintro e w2 ⟨rfl, hb⟩
      go_wp2
      go_ret
      exact ⟨rfl, bt hl hb⟩
  · have hne : ¬ (n : Int) = 1 := by omega
    rw [decide_eq_false h, Bool.false_and]
    clear h
    go_enter Tryz.func116, Tryz.ntmps116
    go_wp2_with fail
    refine (fixed_3 _).mono ?_
    rintro e w1 ⟨rfl, rfl⟩
    go_wp2
    go_ret
    exact ⟨rfl, hl⟩
theorem follows_4 (m c t ec : Int) (sd ok sp : Bool) (a : Option Addr) (cap : Nat) (rs : List (Int × Int)) (n : Nat) (w : World) (hn : n ≤ 40) :
    Calls Tryz.prog 116 #[.agg #[.int .i64 m, .int .i64 c, .int .i64 t, .int .i64 ec, .bool sd, .bool ok, .bool sp, (.slice a rs.length cap)], .int .i64 4, .int .i64 n] w fun e w' => e = .returned (.bool (decide (n = 0) && !(ok))) ∧ Below w.heap.size w w' := by
  have hA := At.box w #[.int .i64 m, .int .i64 c, .int .i64 t, .int .i64 ec, .bool sd, .bool ok, .bool sp, (.slice a rs.length cap)] 32
  have hl := bel1 w (.cells #[.int .i64 m, .int .i64 c, .int .i64 t, .int .i64 ec, .bool sd, .bool ok, .bool sp, (.slice a rs.length cap)] 32)
  obtain ⟨⟨c0, c1, c2, c3, c4, c5, c6, c7⟩, -, -⟩ := hA.eight
  have hn' : (n : Int) ≤ 40 := by omega
  by_cases h : n = 0
  · subst h
    cases ok
    all_goals
      go_enter Tryz.func116, Tryz.ntmps116
      go_wp2_with fail
      refine (fixed_4 _).mono ?_
      rintro e w1 ⟨rfl, rfl⟩
      go_wp2_with fail
      refine (has_4 _ _ _ _ _ _ _ _ _ _ _).mono ?_
      rintro e w2 ⟨rfl, hb⟩
      go_wp2
      go_ret
      exact ⟨rfl, bt hl hb⟩
  · have hne : ¬ (n : Int) = 0 := by omega
    rw [decide_eq_false h, Bool.false_and]
    clear h
    go_enter Tryz.func116, Tryz.ntmps116
    go_wp2_with fail
    refine (fixed_4 _).mono ?_
    rintro e w1 ⟨rfl, rfl⟩
    go_wp2
    go_ret
    exact ⟨rfl, hl⟩
theorem follows_8 (m c t ec : Int) (sd ok sp : Bool) (a : Option Addr) (cap : Nat) (rs : List (Int × Int)) (n : Nat) (w : World) (hn : n ≤ 40) :
    Calls Tryz.prog 116 #[.agg #[.int .i64 m, .int .i64 c, .int .i64 t, .int .i64 ec, .bool sd, .bool ok, .bool sp, (.slice a rs.length cap)], .int .i64 8, .int .i64 n] w fun e w' => e = .returned (.bool (decide (n = 8) && !(sp))) ∧ Below w.heap.size w w' := by
  have hA := At.box w #[.int .i64 m, .int .i64 c, .int .i64 t, .int .i64 ec, .bool sd, .bool ok, .bool sp, (.slice a rs.length cap)] 32
  have hl := bel1 w (.cells #[.int .i64 m, .int .i64 c, .int .i64 t, .int .i64 ec, .bool sd, .bool ok, .bool sp, (.slice a rs.length cap)] 32)
  obtain ⟨⟨c0, c1, c2, c3, c4, c5, c6, c7⟩, -, -⟩ := hA.eight
  have hn' : (n : Int) ≤ 40 := by omega
  by_cases h : n = 8
  · subst h
    cases sp
    all_goals
      go_enter Tryz.func116, Tryz.ntmps116
      go_wp2_with fail
      refine (fixed_8 _).mono ?_
      rintro e w1 ⟨rfl, rfl⟩
      go_wp2_with fail
      refine (has_8 _ _ _ _ _ _ _ _ _ _ _).mono ?_
      rintro e w2 ⟨rfl, hb⟩
      go_wp2
      go_ret
      exact ⟨rfl, bt hl hb⟩
  · have hne : ¬ (n : Int) = 8 := by omega
    rw [decide_eq_false h, Bool.false_and]
    clear h
    go_enter Tryz.func116, Tryz.ntmps116
    go_wp2_with fail
    refine (fixed_8 _).mono ?_
    rintro e w1 ⟨rfl, rfl⟩
    go_wp2
    go_ret
    exact ⟨rfl, hl⟩
theorem follows_5 (m c t ec : Int) (sd ok sp : Bool) (a : Option Addr) (cap : Nat) (rs : List (Int × Int)) (n : Nat) (w : World) (hn : n ≤ 40) :
    Calls Tryz.prog 116 #[.agg #[.int .i64 m, .int .i64 c, .int .i64 t, .int .i64 ec, .bool sd, .bool ok, .bool sp, (.slice a rs.length cap)], .int .i64 5, .int .i64 n] w fun e w' => e = .returned (.bool (decide (n ≠ 0 ∧ n % 8 = 0) && decide (rs.length = 0))) ∧ Below w.heap.size w w' := by
  have hA := At.box w #[.int .i64 m, .int .i64 c, .int .i64 t, .int .i64 ec, .bool sd, .bool ok, .bool sp, (.slice a rs.length cap)] 32
  have hl := bel1 w (.cells #[.int .i64 m, .int .i64 c, .int .i64 t, .int .i64 ec, .bool sd, .bool ok, .bool sp, (.slice a rs.length cap)] 32)
  obtain ⟨⟨c0, c1, c2, c3, c4, c5, c6, c7⟩, -, -⟩ := hA.eight
  have hn' : (n : Int) ≤ 40 := by omega
  by_cases h0 : n = 0
  · subst h0
    rw [decide_eq_false (by omega), Bool.false_and]
    go_enter Tryz.func116, Tryz.ntmps116
    go_wp2
    go_ret
    exact ⟨rfl, hl⟩
  · have hne : ¬ (n : Int) = 0 := by omega
    have hn0 : (0 : Int) ≤ (n : Int) := by omega
    by_cases h8 : n % 8 = 0
    · have h8' : (n : Int) % 8 = 0 := by omega
      rw [decide_eq_true ⟨h0, h8⟩, Bool.true_and]
      have hb : decide (rs.length = 0) = !(decide (0 < rs.length)) := by
        rw [← decide_not]; exact decide_eq_decide.2 (by omega)
      rw [hb]
      clear hb
      rcases Bool.eq_false_or_eq_true (decide (0 < rs.length)) with hh | hh
      all_goals
        have hq := fun W => has_5 m c t ec sd ok sp a rs.length cap W
        rw [hh] at hq
        rw [hh]
        have HQ : Hid (∀ W, Calls Tryz.prog 131 #[.agg #[.int .i64 m, .int .i64 c, .int .i64 t, .int .i64 ec, .bool sd, .bool ok, .bool sp, (.slice a rs.length cap)], .int .i64 5] W fun e w' => e = .returned (.bool _) ∧ Below W.heap.size W w') := hq
        clear hh hq h8 h0
        go_enter Tryz.func116, Tryz.ntmps116
        go_wp2_with fail
        refine (fixed_5 _).mono ?_
        rintro e w1 ⟨rfl, rfl⟩
        go_wp2_with fail
        refine (HQ.out _).mono ?_
        rintro e w2 ⟨rfl, hb⟩
        go_wp2
        go_ret
        exact ⟨rfl, bt hl hb⟩
    · have h8' : ¬ (n : Int) % 8 = 0 := by omega
      rw [decide_eq_false (by omega), Bool.false_and]
      clear h8 h0
      go_enter Tryz.func116, Tryz.ntmps116
      go_wp2_with fail
      refine (fixed_5 _).mono ?_
      rintro e w1 ⟨rfl, rfl⟩
      go_wp2
      go_ret
      exact ⟨rfl, hl⟩
theorem follows_any (o : Op) (a : Option Addr) (cap : Nat) (kind : Int) (n : Nat) (w : World) (hn : n ≤ 40) :
    Calls Tryz.prog 116 #[.agg #[.int .i64 o.m, .int .i64 o.c, .int .i64 o.t, .int .i64 o.ec, .bool o.sd, .bool o.ok, .bool o.sp, .slice a o.rs.length cap], .int .i64 kind, .int .i64 n] w fun e w' => e = .returned (.bool (followsB o kind n)) ∧ Below w.heap.size w w' := by
  obtain ⟨m, c, t, ec, sd, ok, sp, rs⟩ := o
  show Calls Tryz.prog 116 #[.agg #[.int .i64 m, .int .i64 c, .int .i64 t, .int .i64 ec, .bool sd, .bool ok, .bool sp, (.slice a rs.length cap)], .int .i64 kind, .int .i64 n] w _
  unfold followsB
  by_cases h5 : kind = 5
  · subst h5; rw [if_pos rfl]; exact follows_5 m c t ec sd ok sp a cap rs n w hn
  rw [if_neg h5]
  by_cases h2 : kind = 2
  · subst h2; rw [if_pos rfl]; exact follows_2 m c t ec sd ok sp a cap rs n w hn
  rw [if_neg h2]
  by_cases h3 : kind = 3
  · subst h3; rw [if_pos rfl]; exact follows_3 m c t ec sd ok sp a cap rs n w hn
  rw [if_neg h3]
  by_cases h4 : kind = 4
  · subst h4; rw [if_pos rfl]; exact follows_4 m c t ec sd ok sp a cap rs n w hn
  rw [if_neg h4]
  by_cases h8 : kind = 8
  · subst h8; rw [if_pos rfl]; exact follows_8 m c t ec sd ok sp a cap rs n w hn
  rw [if_neg h8]
  have hl := bel1 w (.cells #[.int .i64 m, .int .i64 c, .int .i64 t, .int .i64 ec, .bool sd, .bool ok, .bool sp, (.slice a rs.length cap)] 32)
  go_enter Tryz.func116, Tryz.ntmps116
  go_wp2
  go_ret
  exact ⟨rfl, hl⟩
end Go.Proofs.YtkpdmgoldngdaaaGreatDoor

namespace Go.Proofs.YtkpdmgoldngdaaaGreatDoor
open Go.RowKit
set_option maxRecDepth 100000

theorem two_news {X : World} {g : Nat} {x y : Int} (h0 : X.cell? ⟨g, 0, none⟩ = some (.int .i64 x)) (h1 : X.cell? ⟨g, 1, none⟩ = some (.int .i64 y)) : ∀ j u, [Value.int .i64 x, .int .i64 y][j]? = some u → X.cell? ((⟨g, 0, none⟩ : Addr).add j) = some u := by
  intro j u hu
  have hj : j < 2 := (List.getElem?_eq_some_iff.1 hu).1
  obtain rfl | rfl : j = 0 ∨ j = 1 := by omega
  · obtain rfl := Option.some.inj hu; exact h0
  · obtain rfl := Option.some.inj hu; exact h1
theorem toList_size (b : ByteArray) : b.data.toList.length = b.size := by simp
set_option maxRecDepth 100000 in
set_option maxHeartbeats 2000000 in
theorem read_3 (m c t ec : Int) (sd ok sp : Bool) (a : Option Addr) (cap : Nat) (rs : List (Int × Int)) (R0 : Nat) (w : World) (hown : w.ownsRow R0 148 2 (.slice a rs.length cap) rs.length (flatR rs)) (b : ByteArray) (hs : b.size = 1) :
    Calls Tryz.prog 117 #[.agg #[.int .i64 m, .int .i64 c, .int .i64 t, .int .i64 ec, .bool sd, .bool ok, .bool sp, (.slice a rs.length cap)], .int .i64 3, .string b] w fun en w' => en = .returned (.tuple #[.agg #[.int .i64 m, .int .i64 ((numL ((b.data.toList.drop 0).take 1))), .int .i64 t, .int .i64 ec, .bool true, .bool ok, .bool sp, .slice a rs.length cap], .bool true]) ∧ w'.ownsRow R0 148 2 (.slice a rs.length cap) rs.length (flatR rs) ∧ Below w.heap.size w w' := by
  have hb1 := bel1 w (.cells #[.int .i64 m, .int .i64 c, .int .i64 t, .int .i64 ec, .bool sd, .bool ok, .bool sp, (.slice a rs.length cap)] 32)
  have hb2 := bel1 (w.alloc (.cells #[.int .i64 m, .int .i64 c, .int .i64 t, .int .i64 ec, .bool sd, .bool ok, .bool sp, (.slice a rs.length cap)] 32)) (.cells #[.int .i64 0, .int .i64 0, .int .i64 0, .int .i64 0, .bool false, .bool false, .bool false, .slice none 0 0] 32)
  have hA := (At.box w #[.int .i64 m, .int .i64 c, .int .i64 t, .int .i64 ec, .bool sd, .bool ok, .bool sp, (.slice a rs.length cap)] 32).later hb2
  have hR := At.box2 w (.cells #[.int .i64 m, .int .i64 c, .int .i64 t, .int .i64 ec, .bool sd, .bool ok, .bool sp, (.slice a rs.length cap)] 32) #[.int .i64 0, .int .i64 0, .int .i64 0, .int .i64 0, .bool false, .bool false, .bool false, .slice none 0 0] 32
  have hl := bt hb1 hb2
  obtain ⟨X0, hn0⟩ : ∃ x, x = numL ((b.data.toList.drop 0).take 1) := ⟨_, rfl⟩
  have hg0 : ∀ W, Calls Tryz.prog 143 #[.string b, .int .i64 0, .int .i64 1] W fun e w' => e = .returned (.int .i64 X0) ∧ Below W.heap.size W w' := fun W => by
    have := get_o b 0 1 W (by unfold maxLen; omega)
    rw [show getV b (0 : Int) (1 : Int) = numL ((b.data.toList.drop 0).take 1) from getV_t b 0 1 (by decide) (by decide) (by omega), ← hn0] at this
    exact this
  rw [← hn0]
  have HN0 : Hid (X0 = numL ((b.data.toList.drop 0).take 1)) := hn0
  clear hn0
  obtain ⟨⟨c0, c1, c2, c3, c4, c5, c6, c7⟩, -, -⟩ := hA.eight
  go_enter Tryz.func117, Tryz.ntmps117
  go_wp2_with fail
  refine (hg0 _).mono ?_
  rintro en w1 ⟨rfl, hb⟩
  replace hl := bt hl hb
  replace hA := hA.later hb
  replace hR := hR.later hb
  clear c0 c1 c2 c3 c4 c5 c6 c7 hb hb1 hb2
  obtain ⟨⟨c0, c1, c2, c3, c4, c5, c6, c7⟩, ⟨f0, f1, f2, f3, f4, f5, f6, f7⟩, -⟩ := hA.eight
  obtain ⟨⟨r0, r1, r2, r3, r4, r5, r6, r7⟩, ⟨g0, g1, g2, g3, g4, g5, g6, g7⟩, -⟩ := hR.eight
  go_wp2
  have hBB := below8 ((hl.setCell (p := ⟨w.heap.size, 4, none⟩) (Nat.le_refl _) (.bool true)).setCell (p := ⟨w.heap.size, 1, none⟩) (Nat.le_refl _) (.int .i64 X0)) (Nat.le_succ _) (.int .i64 m) (.int .i64 X0) (.int .i64 t) (.int .i64 ec) (.bool true) (.bool ok) (.bool sp) (.slice a rs.length cap)
  exact bodyPost_ret (v := .tuple #[.agg #[.int .i64 m, .int .i64 X0, .int .i64 t, .int .i64 ec, .bool true, .bool ok, .bool sp, .slice a rs.length cap], .bool true]) (by simp [results, Tryz.results117, go_sem, r0, r1, r2, r3, r4, r5, r6, r7]) rfl ⟨rfl, own_later hown hBB, hBB⟩
set_option maxRecDepth 100000 in
set_option maxHeartbeats 2000000 in
theorem read_4 (m c t ec : Int) (sd ok sp : Bool) (a : Option Addr) (cap : Nat) (rs : List (Int × Int)) (R0 : Nat) (w : World) (hown : w.ownsRow R0 148 2 (.slice a rs.length cap) rs.length (flatR rs)) (b : ByteArray) :
    Calls Tryz.prog 117 #[.agg #[.int .i64 m, .int .i64 c, .int .i64 t, .int .i64 ec, .bool sd, .bool ok, .bool sp, (.slice a rs.length cap)], .int .i64 4, .string b] w fun en w' => en = .returned (.tuple #[.agg #[.int .i64 m, .int .i64 c, .int .i64 t, .int .i64 ec, .bool sd, .bool true, .bool sp, .slice a rs.length cap], .bool true]) ∧ w'.ownsRow R0 148 2 (.slice a rs.length cap) rs.length (flatR rs) ∧ Below w.heap.size w w' := by
  have hb1 := bel1 w (.cells #[.int .i64 m, .int .i64 c, .int .i64 t, .int .i64 ec, .bool sd, .bool ok, .bool sp, (.slice a rs.length cap)] 32)
  have hb2 := bel1 (w.alloc (.cells #[.int .i64 m, .int .i64 c, .int .i64 t, .int .i64 ec, .bool sd, .bool ok, .bool sp, (.slice a rs.length cap)] 32)) (.cells #[.int .i64 0, .int .i64 0, .int .i64 0, .int .i64 0, .bool false, .bool false, .bool false, .slice none 0 0] 32)
  have hA := (At.box w #[.int .i64 m, .int .i64 c, .int .i64 t, .int .i64 ec, .bool sd, .bool ok, .bool sp, (.slice a rs.length cap)] 32).later hb2
  have hR := At.box2 w (.cells #[.int .i64 m, .int .i64 c, .int .i64 t, .int .i64 ec, .bool sd, .bool ok, .bool sp, (.slice a rs.length cap)] 32) #[.int .i64 0, .int .i64 0, .int .i64 0, .int .i64 0, .bool false, .bool false, .bool false, .slice none 0 0] 32
  have hl := bt hb1 hb2
  obtain ⟨⟨c0, c1, c2, c3, c4, c5, c6, c7⟩, ⟨f0, f1, f2, f3, f4, f5, f6, f7⟩, -⟩ := hA.eight
  obtain ⟨⟨r0, r1, r2, r3, r4, r5, r6, r7⟩, ⟨g0, g1, g2, g3, g4, g5, g6, g7⟩, -⟩ := hR.eight
  go_enter Tryz.func117, Tryz.ntmps117
  go_wp2
  have hBB := bt (bel1 w (.cells (#[.int .i64 m, .int .i64 c, .int .i64 t, .int .i64 ec, .bool sd, .bool true, .bool sp, .slice a rs.length cap]) 32)) (bel1 _ (.cells (#[.int .i64 m, .int .i64 c, .int .i64 t, .int .i64 ec, .bool sd, .bool true, .bool sp, .slice a rs.length cap]) 32))
  exact bodyPost_ret (v := .tuple #[.agg #[.int .i64 m, .int .i64 c, .int .i64 t, .int .i64 ec, .bool sd, .bool true, .bool sp, .slice a rs.length cap], .bool true]) (by simp [results, Tryz.results117, go_sem]) rfl ⟨rfl, own_later hown hBB, hBB⟩
set_option maxRecDepth 100000 in
set_option maxHeartbeats 2000000 in
theorem read_8 (m c t ec : Int) (sd ok sp : Bool) (a : Option Addr) (cap : Nat) (rs : List (Int × Int)) (R0 : Nat) (w : World) (hown : w.ownsRow R0 148 2 (.slice a rs.length cap) rs.length (flatR rs)) (b : ByteArray) (hs : b.size = 8) :
    Calls Tryz.prog 117 #[.agg #[.int .i64 m, .int .i64 c, .int .i64 t, .int .i64 ec, .bool sd, .bool ok, .bool sp, (.slice a rs.length cap)], .int .i64 8, .string b] w fun en w' => en = .returned (.tuple #[.agg #[.int .i64 m, .int .i64 c, .int .i64 ((numL ((b.data.toList.drop 0).take 4))), .int .i64 ((numL ((b.data.toList.drop 4).take 4))), .bool sd, .bool ok, .bool true, .slice a rs.length cap], .bool true]) ∧ w'.ownsRow R0 148 2 (.slice a rs.length cap) rs.length (flatR rs) ∧ Below w.heap.size w w' := by
  have hb1 := bel1 w (.cells #[.int .i64 m, .int .i64 c, .int .i64 t, .int .i64 ec, .bool sd, .bool ok, .bool sp, (.slice a rs.length cap)] 32)
  have hb2 := bel1 (w.alloc (.cells #[.int .i64 m, .int .i64 c, .int .i64 t, .int .i64 ec, .bool sd, .bool ok, .bool sp, (.slice a rs.length cap)] 32)) (.cells #[.int .i64 0, .int .i64 0, .int .i64 0, .int .i64 0, .bool false, .bool false, .bool false, .slice none 0 0] 32)
  have hA := (At.box w #[.int .i64 m, .int .i64 c, .int .i64 t, .int .i64 ec, .bool sd, .bool ok, .bool sp, (.slice a rs.length cap)] 32).later hb2
  have hR := At.box2 w (.cells #[.int .i64 m, .int .i64 c, .int .i64 t, .int .i64 ec, .bool sd, .bool ok, .bool sp, (.slice a rs.length cap)] 32) #[.int .i64 0, .int .i64 0, .int .i64 0, .int .i64 0, .bool false, .bool false, .bool false, .slice none 0 0] 32
  have hl := bt hb1 hb2
  obtain ⟨X0, hn0⟩ : ∃ x, x = numL ((b.data.toList.drop 0).take 4) := ⟨_, rfl⟩
  have hg0 : ∀ W, Calls Tryz.prog 143 #[.string b, .int .i64 0, .int .i64 4] W fun e w' => e = .returned (.int .i64 X0) ∧ Below W.heap.size W w' := fun W => by
    have := get_o b 0 4 W (by unfold maxLen; omega)
    rw [show getV b (0 : Int) (4 : Int) = numL ((b.data.toList.drop 0).take 4) from getV_t b 0 4 (by decide) (by decide) (by omega), ← hn0] at this
    exact this
  obtain ⟨X1, hn1⟩ : ∃ x, x = numL ((b.data.toList.drop 4).take 4) := ⟨_, rfl⟩
  have hg1 : ∀ W, Calls Tryz.prog 143 #[.string b, .int .i64 4, .int .i64 4] W fun e w' => e = .returned (.int .i64 X1) ∧ Below W.heap.size W w' := fun W => by
    have := get_o b 4 4 W (by unfold maxLen; omega)
    rw [show getV b (4 : Int) (4 : Int) = numL ((b.data.toList.drop 4).take 4) from getV_t b 4 4 (by decide) (by decide) (by omega), ← hn1] at this
    exact this
  rw [← hn0, ← hn1]
  clear hn0 hn1
  obtain ⟨⟨c0, c1, c2, c3, c4, c5, c6, c7⟩, -, -⟩ := hA.eight
  go_enter Tryz.func117, Tryz.ntmps117
  go_wp2_with fail
  refine (hg0 _).mono ?_
  rintro en w1 ⟨rfl, hb⟩
  replace hl := bt hl hb
  replace hA := hA.later hb
  replace hR := hR.later hb
  clear c0 c1 c2 c3 c4 c5 c6 c7 hb hb1 hb2
  go_wp2_with fail
  refine (hg1 _).mono ?_
  rintro en w2 ⟨rfl, hb⟩
  replace hl := bt hl hb
  replace hA := hA.later hb
  replace hR := hR.later hb
  clear hb
  obtain ⟨⟨c0, c1, c2, c3, c4, c5, c6, c7⟩, ⟨f0, f1, f2, f3, f4, f5, f6, f7⟩, -⟩ := hA.eight
  obtain ⟨⟨r0, r1, r2, r3, r4, r5, r6, r7⟩, ⟨g0, g1, g2, g3, g4, g5, g6, g7⟩, -⟩ := hR.eight
  go_wp2
  have hBB := below8 (((hl.setCell (p := ⟨w.heap.size, 6, none⟩) (Nat.le_refl _) (.bool true)).setCell (p := ⟨w.heap.size, 2, none⟩) (Nat.le_refl _) (.int .i64 X0)).setCell (p := ⟨w.heap.size, 3, none⟩) (Nat.le_refl _) (.int .i64 X1)) (Nat.le_succ _) (.int .i64 m) (.int .i64 c) (.int .i64 X0) (.int .i64 X1) (.bool sd) (.bool ok) (.bool true) (.slice a rs.length cap)
  exact bodyPost_ret (v := .tuple #[.agg #[.int .i64 m, .int .i64 c, .int .i64 X0, .int .i64 X1, .bool sd, .bool ok, .bool true, .slice a rs.length cap], .bool true]) (by simp [results, Tryz.results117, go_sem, r0, r1, r2, r3, r4, r5, r6, r7]) rfl ⟨rfl, own_later hown hBB, hBB⟩
set_option maxRecDepth 100000 in
set_option maxHeartbeats 2000000 in
theorem read_x (m c t ec : Int) (sd ok sp : Bool) (a : Option Addr) (cap : Nat) (rs : List (Int × Int)) (R0 : Nat) (w : World) (hown : w.ownsRow R0 148 2 (.slice a rs.length cap) rs.length (flatR rs)) (b : ByteArray) (kind : Int) (h2 : ¬ kind = 2) (h3 : ¬ kind = 3) (h4 : ¬ kind = 4) (h8 : ¬ kind = 8) (h5 : ¬ kind = 5) :
    Calls Tryz.prog 117 #[.agg #[.int .i64 m, .int .i64 c, .int .i64 t, .int .i64 ec, .bool sd, .bool ok, .bool sp, (.slice a rs.length cap)], .int .i64 kind, .string b] w fun en w' => en = .returned (.tuple #[.agg #[.int .i64 m, .int .i64 c, .int .i64 t, .int .i64 ec, .bool sd, .bool ok, .bool sp, .slice a rs.length cap], .bool true]) ∧ w'.ownsRow R0 148 2 (.slice a rs.length cap) rs.length (flatR rs) ∧ Below w.heap.size w w' := by
  have hb1 := bel1 w (.cells #[.int .i64 m, .int .i64 c, .int .i64 t, .int .i64 ec, .bool sd, .bool ok, .bool sp, (.slice a rs.length cap)] 32)
  have hb2 := bel1 (w.alloc (.cells #[.int .i64 m, .int .i64 c, .int .i64 t, .int .i64 ec, .bool sd, .bool ok, .bool sp, (.slice a rs.length cap)] 32)) (.cells #[.int .i64 0, .int .i64 0, .int .i64 0, .int .i64 0, .bool false, .bool false, .bool false, .slice none 0 0] 32)
  have hA := (At.box w #[.int .i64 m, .int .i64 c, .int .i64 t, .int .i64 ec, .bool sd, .bool ok, .bool sp, (.slice a rs.length cap)] 32).later hb2
  have hR := At.box2 w (.cells #[.int .i64 m, .int .i64 c, .int .i64 t, .int .i64 ec, .bool sd, .bool ok, .bool sp, (.slice a rs.length cap)] 32) #[.int .i64 0, .int .i64 0, .int .i64 0, .int .i64 0, .bool false, .bool false, .bool false, .slice none 0 0] 32
  have hl := bt hb1 hb2
  obtain ⟨⟨c0, c1, c2, c3, c4, c5, c6, c7⟩, ⟨f0, f1, f2, f3, f4, f5, f6, f7⟩, -⟩ := hA.eight
  obtain ⟨⟨r0, r1, r2, r3, r4, r5, r6, r7⟩, ⟨g0, g1, g2, g3, g4, g5, g6, g7⟩, -⟩ := hR.eight
  go_enter Tryz.func117, Tryz.ntmps117
  go_wp2
  have hBB := bt (bel1 w (.cells (#[.int .i64 m, .int .i64 c, .int .i64 t, .int .i64 ec, .bool sd, .bool ok, .bool sp, .slice a rs.length cap]) 32)) (bel1 _ (.cells (#[.int .i64 m, .int .i64 c, .int .i64 t, .int .i64 ec, .bool sd, .bool ok, .bool sp, .slice a rs.length cap]) 32))
  exact bodyPost_ret (v := .tuple #[.agg #[.int .i64 m, .int .i64 c, .int .i64 t, .int .i64 ec, .bool sd, .bool ok, .bool sp, .slice a rs.length cap], .bool true]) (by simp [results, Tryz.results117, go_sem]) rfl ⟨rfl, own_later hown hBB, hBB⟩
set_option maxRecDepth 100000 in
set_option maxHeartbeats 2000000 in
theorem read_2 (m c t ec : Int) (sd ok sp : Bool) (a : Option Addr) (cap : Nat) (rs : List (Int × Int)) (R0 : Nat) (w : World) (hown : w.ownsRow R0 148 2 (.slice a rs.length cap) rs.length (flatR rs)) (b : ByteArray) (hs : b.size = 2) :
    Calls Tryz.prog 117 #[.agg #[.int .i64 m, .int .i64 c, .int .i64 t, .int .i64 ec, .bool sd, .bool ok, .bool sp, (.slice a rs.length cap)], .int .i64 2, .string b] w fun en w' => en = .returned (.tuple #[.agg #[.int .i64 ((numL ((b.data.toList.drop 0).take 2))), .int .i64 c, .int .i64 t, .int .i64 ec, .bool sd, .bool ok, .bool sp, .slice a rs.length cap], .bool (numL ((b.data.toList.drop 0).take 2) != 0)]) ∧ w'.ownsRow R0 148 2 (.slice a rs.length cap) rs.length (flatR rs) ∧ Below w.heap.size w w' := by
  have hb1 := bel1 w (.cells #[.int .i64 m, .int .i64 c, .int .i64 t, .int .i64 ec, .bool sd, .bool ok, .bool sp, (.slice a rs.length cap)] 32)
  have hb2 := bel1 (w.alloc (.cells #[.int .i64 m, .int .i64 c, .int .i64 t, .int .i64 ec, .bool sd, .bool ok, .bool sp, (.slice a rs.length cap)] 32)) (.cells #[.int .i64 0, .int .i64 0, .int .i64 0, .int .i64 0, .bool false, .bool false, .bool false, .slice none 0 0] 32)
  have hA := (At.box w #[.int .i64 m, .int .i64 c, .int .i64 t, .int .i64 ec, .bool sd, .bool ok, .bool sp, (.slice a rs.length cap)] 32).later hb2
  have hR := At.box2 w (.cells #[.int .i64 m, .int .i64 c, .int .i64 t, .int .i64 ec, .bool sd, .bool ok, .bool sp, (.slice a rs.length cap)] 32) #[.int .i64 0, .int .i64 0, .int .i64 0, .int .i64 0, .bool false, .bool false, .bool false, .slice none 0 0] 32
  have hl := bt hb1 hb2
  obtain ⟨X0, hn0⟩ : ∃ x, x = numL ((b.data.toList.drop 0).take 2) := ⟨_, rfl⟩
  have hg0 : ∀ W, Calls Tryz.prog 143 #[.string b, .int .i64 0, .int .i64 2] W fun e w' => e = .returned (.int .i64 X0) ∧ Below W.heap.size W w' := fun W => by
    have := get_o b 0 2 W (by unfold maxLen; omega)
    rw [show getV b (0 : Int) (2 : Int) = numL ((b.data.toList.drop 0).take 2) from getV_t b 0 2 (by decide) (by decide) (by omega), ← hn0] at this
    exact this
  rw [← hn0]
  clear hn0
  obtain ⟨⟨c0, c1, c2, c3, c4, c5, c6, c7⟩, -, -⟩ := hA.eight
  go_enter Tryz.func117, Tryz.ntmps117
  go_wp2_with fail
  refine (hg0 _).mono ?_
  rintro en w1 ⟨rfl, hb⟩
  replace hl := bt hl hb
  replace hA := hA.later hb
  replace hR := hR.later hb
  clear c0 c1 c2 c3 c4 c5 c6 c7 hb hb1 hb2
  obtain ⟨⟨c0, c1, c2, c3, c4, c5, c6, c7⟩, ⟨f0, f1, f2, f3, f4, f5, f6, f7⟩, -⟩ := hA.eight
  obtain ⟨⟨r0, r1, r2, r3, r4, r5, r6, r7⟩, ⟨g0, g1, g2, g3, g4, g5, g6, g7⟩, -⟩ := hR.eight
  go_wp2
  go_region
  all_goals
    go_wp2
    have hBB := (below8 (hl.setCell (p := ⟨w.heap.size, 0, none⟩) (Nat.le_refl _) (.int .i64 X0)) (Nat.le_succ _) (.int .i64 X0) (.int .i64 c) (.int .i64 t) (.int .i64 ec) (.bool sd) (.bool ok) (.bool sp) (.slice a rs.length cap)).drew
    exact bodyPost_ret (v := .tuple #[.agg #[.int .i64 X0, .int .i64 c, .int .i64 t, .int .i64 ec, .bool sd, .bool ok, .bool sp, .slice a rs.length cap], .bool (X0 != 0)]) (by simp [results, Tryz.results117, go_sem, r0, r1, r2, r3, r4, r5, r6, r7]) rfl ⟨rfl, own_later hown hBB, hBB⟩
theorem pairs_at (b : ByteArray) (k : Nat) (hk : k < b.size / 8) : (pairsL b.data.toList)[k]? = some (numL ((b.data.toList.drop (k * 8)).take 4), numL ((b.data.toList.drop (k * 8 + 4)).take 4)) := by
  unfold pairsL
  rw [toList_size, List.getElem?_map, List.getElem?_range hk]
  rfl
theorem pairs_len (b : ByteArray) : (pairsL b.data.toList).length = b.size / 8 := by simp [pairsL]
theorem takeL_snoc {α : Type} (l : List α) (k : Nat) (x : α) (h : l[k]? = some x) : l.take (k + 1) = l.take k ++ [x] := by
  obtain ⟨hk, rfl⟩ := List.getElem?_eq_some_iff.1 h
  exact List.take_succ_eq_append_getElem hk
set_option maxRecDepth 100000 in
set_option maxHeartbeats 4000000 in
theorem read_5 (m c t ec : Int) (sd ok sp : Bool) (w : World) (b : ByteArray) (hs : b.size ≤ 40) (h0 : b.size ≠ 0) (h8 : b.size % 8 = 0) :
    Calls Tryz.prog 117 #[.agg #[.int .i64 m, .int .i64 c, .int .i64 t, .int .i64 ec, .bool sd, .bool ok, .bool sp, (.slice none 0 0)], .int .i64 5, .string b] w fun en w' => ∃ v', en = .returned (.tuple #[.agg #[.int .i64 m, .int .i64 c, .int .i64 t, .int .i64 ec, .bool sd, .bool ok, .bool sp, v'], .bool true]) ∧ w'.ownsRow w.heap.size 148 2 v' (pairsL b.data.toList).length (flatR (pairsL b.data.toList)) ∧ Below w.heap.size w w' := by
  obtain ⟨i0, hi, hz0, hz1, hz2⟩ := info_parts Tryz.info148
  have HI : Hid (Tryz.prog.info? 148 = some i0 ∧ i0.zero = some (.agg #[.int .i64 0, .int .i64 0]) ∧ i0.size = 2 ∧ i0.bytes = 16) := ⟨hi, hz0, hz1, hz2⟩
  clear hi hz0 hz1 hz2
  have hb1 := bel1 w (.cells #[.int .i64 m, .int .i64 c, .int .i64 t, .int .i64 ec, .bool sd, .bool ok, .bool sp, (.slice none 0 0)] 32)
  have hb2 := bel1 (w.alloc (.cells #[.int .i64 m, .int .i64 c, .int .i64 t, .int .i64 ec, .bool sd, .bool ok, .bool sp, (.slice none 0 0)] 32)) (.cells #[.int .i64 0, .int .i64 0, .int .i64 0, .int .i64 0, .bool false, .bool false, .bool false, .slice none 0 0] 32)
  have hA := (At.box w #[.int .i64 m, .int .i64 c, .int .i64 t, .int .i64 ec, .bool sd, .bool ok, .bool sp, (.slice none 0 0)] 32).later hb2
  have hR := At.box2 w (.cells #[.int .i64 m, .int .i64 c, .int .i64 t, .int .i64 ec, .bool sd, .bool ok, .bool sp, (.slice none 0 0)] 32) #[.int .i64 0, .int .i64 0, .int .i64 0, .int .i64 0, .bool false, .bool false, .bool false, .slice none 0 0] 32
  have hl := bt hb1 hb2
  have hsz : w.heap.size + 2 ≤ ((w.alloc (.cells #[.int .i64 m, .int .i64 c, .int .i64 t, .int .i64 ec, .bool sd, .bool ok, .bool sp, (.slice none 0 0)] 32)).alloc (.cells #[.int .i64 0, .int .i64 0, .int .i64 0, .int .i64 0, .bool false, .bool false, .bool false, .slice none 0 0] 32)).heap.size := by simp
  have HST : Hid (Below w.heap.size w ((w.alloc (.cells #[.int .i64 m, .int .i64 c, .int .i64 t, .int .i64 ec, .bool sd, .bool ok, .bool sp, (.slice none 0 0)] 32)).alloc (.cells #[.int .i64 0, .int .i64 0, .int .i64 0, .int .i64 0, .bool false, .bool false, .bool false, .slice none 0 0] 32)) ∧ w.heap.size + 2 ≤ ((w.alloc (.cells #[.int .i64 m, .int .i64 c, .int .i64 t, .int .i64 ec, .bool sd, .bool ok, .bool sp, (.slice none 0 0)] 32)).alloc (.cells #[.int .i64 0, .int .i64 0, .int .i64 0, .int .i64 0, .bool false, .bool false, .bool false, .slice none 0 0] 32)).heap.size ∧ At ((w.alloc (.cells #[.int .i64 m, .int .i64 c, .int .i64 t, .int .i64 ec, .bool sd, .bool ok, .bool sp, (.slice none 0 0)] 32)).alloc (.cells #[.int .i64 0, .int .i64 0, .int .i64 0, .int .i64 0, .bool false, .bool false, .bool false, .slice none 0 0] 32)) w.heap.size #[.int .i64 m, .int .i64 c, .int .i64 t, .int .i64 ec, .bool sd, .bool ok, .bool sp, (.slice none 0 0)] ∧ At ((w.alloc (.cells #[.int .i64 m, .int .i64 c, .int .i64 t, .int .i64 ec, .bool sd, .bool ok, .bool sp, (.slice none 0 0)] 32)).alloc (.cells #[.int .i64 0, .int .i64 0, .int .i64 0, .int .i64 0, .bool false, .bool false, .bool false, .slice none 0 0] 32)) (w.heap.size + 1) #[.int .i64 0, .int .i64 0, .int .i64 0, .int .i64 0, .bool false, .bool false, .bool false, .slice none 0 0]) := ⟨hl, hsz, hA, hR⟩
  clear hb1 hb2 hA hR hl hsz
  obtain ⟨N, hN⟩ : ∃ N, N = b.size / 8 := ⟨_, rfl⟩
  have HN : Hid (b.size = N * 8) := by show _ = _; omega
  have hN1 : 1 ≤ N := by omega
  have hN5 : N ≤ 5 := by omega
  have hbs : (b.size : Int) = (N : Int) * 8 := by omega
  have hpl := pairs_len b
  rw [← hN] at hpl
  have HPL : Hid ((pairsL b.data.toList).length = N) := hpl
  have HAT : Hid (∀ k, k < N → (pairsL b.data.toList)[k]? = some (numL ((b.data.toList.drop (k * 8)).take 4), numL ((b.data.toList.drop (k * 8 + 4)).take 4))) := fun k hk => pairs_at b k (by omega)
  clear hN hpl h8 h0
  go_enter Tryz.func117, Tryz.ntmps117
  go_wp2
  go_loopw [8] (fun s W => ∃ (k : Nat) (v : Value), k ≤ N ∧ s = .int .i64 ((k * 8 : Nat) : Int) ∧ Below w.heap.size w W ∧ w.heap.size + 2 ≤ W.heap.size ∧ At W w.heap.size #[.int .i64 m, .int .i64 c, .int .i64 t, .int .i64 ec, .bool sd, .bool ok, .bool sp, v] ∧ At W (w.heap.size + 1) #[.int .i64 0, .int .i64 0, .int .i64 0, .int .i64 0, .bool false, .bool false, .bool false, .slice none 0 0] ∧ W.ownsRow (w.heap.size + 2) 148 2 v k (flatR ((pairsL b.data.toList).take k))) (fun s _ => N * 8 - (intOf s).toNat)
  case atStart => exact ⟨0, .slice none 0 0, Nat.zero_le _, by simp, HST.out.1, HST.out.2.1, HST.out.2.2.1, HST.out.2.2.2, World.ownsRow_nil _ _ _ _⟩
  case round =>
    obtain ⟨k, v, hk, rfl, hbl, hsz, hA, hR, hown⟩ := hrel
    clear HST
    by_cases hlt : k < N
    · obtain ⟨p, hp⟩ : ∃ p, p = k * 8 := ⟨_, rfl⟩
      rw [← hp]
      have hpk := HAT.out k hlt
      rw [← hp] at hpk
      have HTK := takeL_snoc _ k _ hpk
      have hp4 : p + 8 ≤ b.size := by omega
      have HGX0 := fun W => get_o b p 4 W (by unfold maxLen; omega)
      have HGY0 := fun W => get_o b ((p : Int) + 4) 4 W (by unfold maxLen; omega)
      have eX : getV b (p : Int) 4 = numL ((b.data.toList.drop p).take 4) := getV_t b p 4 (by decide) (by decide) (by omega)
      have eY : getV b ((p : Int) + 4) 4 = numL ((b.data.toList.drop (p + 4)).take 4) := by have := getV_t b (p + 4) 4 (by decide) (by decide) (by omega); rw [← this]; rfl
      rw [eX] at HGX0
      rw [eY] at HGY0
      generalize numL ((b.data.toList.drop p).take 4) = X at *
      generalize numL ((b.data.toList.drop (p + 4)).take 4) = Y at *
      have HGX : Hid (∀ W, Calls Tryz.prog 143 #[.string b, .int .i64 (p : Int), .int .i64 4] W fun e w' => e = .returned (.int .i64 X) ∧ Below W.heap.size W w') := HGX0
      have HGY : Hid (∀ W, Calls Tryz.prog 143 #[.string b, .int .i64 ((p : Int) + 4), .int .i64 4] W fun e w' => e = .returned (.int .i64 Y) ∧ Below W.heap.size W w') := HGY0
      have HTKH : Hid ((pairsL b.data.toList).take (k + 1) = (pairsL b.data.toList).take k ++ [(X, Y)]) := HTK
      have HP : Hid (p = k * 8) := hp
      have g1 : (p : Int) < (b.size : Int) := by omega
      have g2 : (p : Int) ≤ 40 := by omega
      clear HGX0 HGY0 eX eY hpk HTK hp
      have HA : Hid (At wr w.heap.size #[.int .i64 m, .int .i64 c, .int .i64 t, .int .i64 ec, .bool sd, .bool ok, .bool sp, v]) := hA
      have HR : Hid (At wr (w.heap.size + 1) #[.int .i64 0, .int .i64 0, .int .i64 0, .int .i64 0, .bool false, .bool false, .bool false, .slice none 0 0]) := hR
      have HO : Hid (wr.ownsRow (w.heap.size + 2) 148 2 v k (flatR ((pairsL b.data.toList).take k))) := hown
      clear hA hR hown
      go_wp2
      refine wp_region_any (by kernel_rfl) ?_
      refine region_facts_end (fun W => Below wr.heap.size wr W) (GE (fun i => match i with | 0 => .pointer (some ⟨w.heap.size, 7, none⟩) | 1 => v | 2 => .string b | 3 => .int .i64 (p : Int) | 4 => .int .i64 X | 5 => .string b | 6 => .int .i64 (p : Int) | 7 => .int .i64 ((p : Int) + 4) | 8 => .int .i64 Y | 9 => .agg #[.int .i64 X, .int .i64 Y] | _ => undef) (fun i => match i with | 10 => some (fun v W => ∃ g, v = .slice (some ⟨g, 0, none⟩) 1 1 ∧ g < W.heap.size ∧ W.cell? ⟨g, 0, none⟩ = some (.int .i64 X) ∧ W.cell? ⟨g, 1, none⟩ = some (.int .i64 Y)) | _ => none)) (n := 59) 11 8 (by kernel_rfl) (by kernel_rfl) rfl (by kernel_rfl) (GE_later _ _ (by
        intro i F hF v w w' h hb
        match i, hF with
        | 10, hF =>
          obtain rfl := Option.some.inj hF
          obtain ⟨g, hg, h1, h2, h3⟩ := h
          exact ⟨g, hg, Nat.lt_of_lt_of_le h1 hb.size, later hb h2, later hb h3⟩)) ?_ ?_ ((Below.refl _ _).drew) (Nat.le_refl _)
      · skip
        refine ⟨?_, ?_, ?_, ?_, ?_, ?_, ?_, ?_, ?_, ?_, ?_, trivial⟩
        · intro ac w1 hS hT hB hD K hK
          rw [if_pos (by rfl)]
          have d3 : ac.tmps.getD 3 undef = .pointer (some ⟨w.heap.size, 0, none⟩) := hB 3 (by kernel_rfl)
          clear hB hD hT
          go_simp
          exact hK _ _ hS (Below.refl _ _) rfl
        · intro ac w1 hS hT hB hD K hK
          rw [if_pos (by rfl)]
          have d45 : ac.tmps.getD 45 undef = .pointer (some ⟨w.heap.size, 7, none⟩) := hD ⟨0, .data⟩ (by simp) rfl _ 45 rfl rfl
          clear hB hD hT
          have hc := (HA.out.later hS).eight.1
          go_simp
          exact hK _ _ hS (Below.refl _ _) rfl
        · intro ac w1 hS hT hB hD K hK
          rw [if_pos (by rfl)]
          have d2 : ac.tmps.getD 2 undef = .string b := hB 2 (by kernel_rfl)
          clear hB hD hT
          go_simp
          exact hK _ _ hS (Below.refl _ _) rfl
        · intro ac w1 hS hT hB hD K hK
          rw [if_pos (by rfl)]
          have d8 : ac.tmps.getD 8 undef = .int .i64 (p : Int) := hB 8 (by kernel_rfl)
          clear hB hD hT
          go_simp
          exact hK _ _ hS (Below.refl _ _) rfl
        · intro ac w1 hS hT hB hD K hK
          rw [if_pos (by rfl)]
          have d47 : ac.tmps.getD 47 undef = .string b := hD ⟨2, .data⟩ (by simp) rfl _ 47 rfl rfl
          have d48 : ac.tmps.getD 48 undef = .int .i64 (p : Int) := hD ⟨3, .data⟩ (by simp) rfl _ 48 rfl rfl
          clear hB hD hT
          go_simp
          refine (HGX.out _).mono ?_
          rintro e w' ⟨rfl, hb⟩
          exact hK _ _ (bt hS hb) hb rfl
        · intro ac w1 hS hT hB hD K hK
          rw [if_pos (by rfl)]
          have d2 : ac.tmps.getD 2 undef = .string b := hB 2 (by kernel_rfl)
          clear hB hD hT
          go_simp
          exact hK _ _ hS (Below.refl _ _) rfl
        · intro ac w1 hS hT hB hD K hK
          rw [if_pos (by rfl)]
          have d8 : ac.tmps.getD 8 undef = .int .i64 (p : Int) := hB 8 (by kernel_rfl)
          clear hB hD hT
          go_simp
          exact hK _ _ hS (Below.refl _ _) rfl
        · intro ac w1 hS hT hB hD K hK
          rw [if_pos (by rfl)]
          have d51 : ac.tmps.getD 51 undef = .int .i64 (p : Int) := hD ⟨6, .data⟩ (by simp) rfl _ 51 rfl rfl
          clear hB hD hT
          have hw1 : IntKind.i64.wrap ((p : Int) + 4) = (p : Int) + 4 := by rw [IntKind.wrap_i64]; omega
          go_simp
          exact hK _ _ hS (Below.refl _ _) rfl
        · intro ac w1 hS hT hB hD K hK
          rw [if_pos (by rfl)]
          have d50 : ac.tmps.getD 50 undef = .string b := hD ⟨5, .data⟩ (by simp) rfl _ 50 rfl rfl
          have d52 : ac.tmps.getD 52 undef = .int .i64 ((p : Int) + 4) := hD ⟨7, .data⟩ (by simp) rfl _ 52 rfl rfl
          clear hB hD hT
          go_simp
          refine (HGY.out _).mono ?_
          rintro e w' ⟨rfl, hb⟩
          exact hK _ _ (bt hS hb) hb rfl
        · intro ac w1 hS hT hB hD K hK
          rw [if_pos (by rfl)]
          have d49 : ac.tmps.getD 49 undef = .int .i64 X := hD ⟨4, .data⟩ (by simp) rfl _ 49 rfl rfl
          have d53 : ac.tmps.getD 53 undef = .int .i64 Y := hD ⟨8, .data⟩ (by simp) rfl _ 53 rfl rfl
          clear hB hD
          obtain ⟨⟨l⟩, df⟩ := ac
          match l, hT with
          | x0 :: x1 :: x2 :: x3 :: x4 :: x5 :: x6 :: x7 :: x8 :: x9 :: x10 :: x11 :: x12 :: x13 :: x14 :: x15 :: x16 :: x17 :: x18 :: x19 :: x20 :: x21 :: x22 :: x23 :: x24 :: x25 :: x26 :: x27 :: x28 :: x29 :: x30 :: x31 :: x32 :: x33 :: x34 :: x35 :: x36 :: x37 :: x38 :: x39 :: x40 :: x41 :: x42 :: x43 :: x44 :: x45 :: x46 :: x47 :: x48 :: x49 :: x50 :: x51 :: x52 :: x53 :: x54 :: x55 :: x56 :: x57 :: x58 :: [], _ =>
            have q49 : x49 = .int .i64 X := d49
            have q53 : x53 = .int .i64 Y := d53
            clear d49 d53
            subst q49 q53
            go_simp
            exact hK _ _ hS (Below.refl _ _) rfl
        · intro ac w1 hS hT hB hD K hK
          rw [if_pos (by rfl)]
          have d54 : ac.tmps.getD 54 undef = .agg #[.int .i64 X, .int .i64 Y] := hD ⟨9, .data⟩ (by simp) rfl _ 54 rfl rfl
          clear hB hD
          obtain ⟨⟨l⟩, df⟩ := ac
          match l, hT with
          | x0 :: x1 :: x2 :: x3 :: x4 :: x5 :: x6 :: x7 :: x8 :: x9 :: x10 :: x11 :: x12 :: x13 :: x14 :: x15 :: x16 :: x17 :: x18 :: x19 :: x20 :: x21 :: x22 :: x23 :: x24 :: x25 :: x26 :: x27 :: x28 :: x29 :: x30 :: x31 :: x32 :: x33 :: x34 :: x35 :: x36 :: x37 :: x38 :: x39 :: x40 :: x41 :: x42 :: x43 :: x44 :: x45 :: x46 :: x47 :: x48 :: x49 :: x50 :: x51 :: x52 :: x53 :: x54 :: x55 :: x56 :: x57 :: x58 :: [], _ =>
            have q54 : x54 = .agg #[.int .i64 X, .int .i64 Y] := d54
            clear d54
            subst q54
            go_simp
            exact hK _ _ (bt hS (bel1 _ _)) (bel1 _ _) ⟨_, rfl, by simp, ((At.box w1 #[.int .i64 X, .int .i64 Y] 148).2 0 _ rfl).1, ((At.box w1 #[.int .i64 X, .int .i64 Y] 148).2 1 _ rfl).1⟩
      · intro ac w1 hS hT hdf hB hF
        obtain ⟨⟨l⟩, df⟩ := ac
        match l, hT with
        | x0 :: x1 :: x2 :: x3 :: x4 :: x5 :: x6 :: x7 :: x8 :: x9 :: x10 :: x11 :: x12 :: x13 :: x14 :: x15 :: x16 :: x17 :: x18 :: x19 :: x20 :: x21 :: x22 :: x23 :: x24 :: x25 :: x26 :: x27 :: x28 :: x29 :: x30 :: x31 :: x32 :: x33 :: x34 :: x35 :: x36 :: x37 :: x38 :: x39 :: x40 :: x41 :: x42 :: x43 :: x44 :: x45 :: x46 :: x47 :: x48 :: x49 :: x50 :: x51 :: x52 :: x53 :: x54 :: x55 :: x56 :: x57 :: x58 :: [], _ =>
          have s0 : x0 = .agg #[.int .i64 m, .int .i64 c, .int .i64 t, .int .i64 ec, .bool sd, .bool ok, .bool sp, (.slice none 0 0)] := hB 0 (by kernel_rfl)
          have s1 : x1 = .int .i64 5 := hB 1 (by kernel_rfl)
          have s2 : x2 = .string b := hB 2 (by kernel_rfl)
          have s3 : x3 = .pointer (some ⟨w.heap.size, 0, none⟩) := hB 3 (by kernel_rfl)
          have s4 : x4 = undef := hB 4 (by kernel_rfl)
          have s5 : x5 = undef := hB 5 (by kernel_rfl)
          have s6 : x6 = .pointer (some ⟨w.heap.size + 1, 0, none⟩) := hB 6 (by kernel_rfl)
          have s7 : x7 = .bool false := hB 7 (by kernel_rfl)
          have s8 : x8 = .int .i64 (p : Int) := hB 8 (by kernel_rfl)
          have s9 : x9 = .int .i64 5 := hB 9 (by kernel_rfl)
          have s10 : x10 = .bool false := hB 10 (by kernel_rfl)
          have s11 : x11 = .bool false := hB 11 (by kernel_rfl)
          have s12 : x12 = undef := hB 12 (by kernel_rfl)
          have s13 : x13 = undef := hB 13 (by kernel_rfl)
          have s14 : x14 = undef := hB 14 (by kernel_rfl)
          have s15 : x15 = undef := hB 15 (by kernel_rfl)
          have s16 : x16 = undef := hB 16 (by kernel_rfl)
          have s17 : x17 = undef := hB 17 (by kernel_rfl)
          have s18 : x18 = undef := hB 18 (by kernel_rfl)
          have s19 : x19 = .bool false := hB 19 (by kernel_rfl)
          have s20 : x20 = .bool false := hB 20 (by kernel_rfl)
          have s21 : x21 = undef := hB 21 (by kernel_rfl)
          have s22 : x22 = undef := hB 22 (by kernel_rfl)
          have s23 : x23 = undef := hB 23 (by kernel_rfl)
          have s24 : x24 = undef := hB 24 (by kernel_rfl)
          have s25 : x25 = .bool false := hB 25 (by kernel_rfl)
          have s26 : x26 = .bool false := hB 26 (by kernel_rfl)
          have s27 : x27 = undef := hB 27 (by kernel_rfl)
          have s28 : x28 = .bool false := hB 28 (by kernel_rfl)
          have s29 : x29 = .bool false := hB 29 (by kernel_rfl)
          have s30 : x30 = undef := hB 30 (by kernel_rfl)
          have s31 : x31 = undef := hB 31 (by kernel_rfl)
          have s32 : x32 = undef := hB 32 (by kernel_rfl)
          have s33 : x33 = undef := hB 33 (by kernel_rfl)
          have s34 : x34 = undef := hB 34 (by kernel_rfl)
          have s35 : x35 = undef := hB 35 (by kernel_rfl)
          have s36 : x36 = undef := hB 36 (by kernel_rfl)
          have s37 : x37 = .bool true := hB 37 (by kernel_rfl)
          have s38 : x38 = .bool true := hB 38 (by kernel_rfl)
          have s58 : x58 = undef := hB 58 (by kernel_rfl)
          subst s0 s1 s2 s3 s4 s5 s6 s7 s8 s9 s10 s11 s12 s13 s14 s15 s16 s17 s18 s19 s20 s21 s22 s23 s24 s25 s26 s27 s28 s29 s30 s31 s32 s33 s34 s35 s36 s37 s38 s58
          have s46 : x46 = v := hF 1 _ 46 (by decide) rfl rfl
          obtain ⟨g9, s55, hg9, e9, e9'⟩ : ∃ g, x55 = .slice (some ⟨g, 0, none⟩) 1 1 ∧ g < w1.heap.size ∧ w1.cell? ⟨g, 0, none⟩ = some (.int .i64 X) ∧ w1.cell? ⟨g, 1, none⟩ = some (.int .i64 Y) := hF 10 _ 55 (by decide) rfl rfl
          have sdf : df = [] := hdf
          subst s46 s55 sdf
          clear hB hF
          have hown1 := own_later HO.out hS
          have hsz1 := Nat.le_trans hsz hS.size
          intro Kc hKc
          rw [if_pos (by rfl)]
          refine wp_append_own w1 (.tmp 46) (.tmp 55) 30 (by rfl) (w.heap.size + 2) 148 i0 (.agg #[.int .i64 0, .int .i64 0]) 2 16 Tryz.underlying30 HI.out.1 HI.out.2.1 HI.out.2.2.1 HI.out.2.2.2 rfl (by decide) x46 k (flatR ((pairsL b.data.toList).take k)) (by rfl) hown1 ⟨g9, 0, none⟩ 1 1 [.int .i64 X, .int .i64 Y] (by rfl) rfl (two_news e9 e9') (by simp [Value.oneCell']) (by unfold maxLen; omega) (by omega) hsz1 ?_
          intro v9 w9 hown9 hgrow9 hnil9
          have hbg : Below (w.heap.size + 2) w1 w9 := (Below.refl _ _).grown hgrow9 hsz1 (fun q e => (hown1.lt q e).1)
          have hA9 := (HA.out.later hS).below hbg (by omega)
          have hR9 := (HR.out.later hS).below hbg (by omega)
          have hb9 : Below w.heap.size w w9 := (bt hbl hS).trans (hbg.mono (by omega))
          have hsz9 := Nat.le_trans hsz1 hbg.size
          replace hown9 : w9.ownsRow (w.heap.size + 2) 148 2 v9 (k + 1) (flatR ((pairsL b.data.toList).take (k + 1))) := by rw [HTKH.out, flatR_snoc]; exact hown9
          rcases id hown9.2 with ⟨-, hq⟩ | ⟨g, cap9, cur, rfl, hg, -⟩
          · omega
          clear hnil9 hgrow9 hbg hown1 hsz1 e9 e9' hg9 hS
          obtain ⟨⟨c0, c1, c2, c3, c4, c5, c6, c7⟩, ⟨f0, f1, f2, f3, f4, f5, f6, f7⟩, -⟩ := hA9.eight
          apply hKc
          clear hKc Kc
          intro Kc hKc
          rw [if_pos (by rfl)]
          go_simp
          apply hKc
          clear hKc Kc
          intro Kc hKc
          rw [if_pos (by rfl)]
          go_simp
          apply hKc
          clear hKc Kc
          refine TailOk_nil ?_
          go_wp2
          go_roundw
          case rel => exact ⟨k + 1, _, by omega, by rw [Nat.add_mul, ← HP.out]; go_num, hb9.setCell (Nat.le_refl _) _, by rw [World.size_setCell]; exact hsz9, hA9.set 7 _, hR9.keep (by omega) 7 _, own_setCell hown9 w.heap.size 7 _ (by omega)⟩
          case measure => simp [intOf]; omega
    · have hkN : k = N := by omega
      subst hkN
      have hg : ¬ ((k * 8 : Nat) : Int) < (b.size : Int) := by omega
      rcases id hown.2 with ⟨-, hq⟩ | ⟨g, cap9, cur, rfl, hg9, -⟩
      · omega
      rw [List.take_of_length_le (by rw [HPL.out]; exact Nat.le_refl _)] at hown
      have HO : Hid (wr.ownsRow (w.heap.size + 2) 148 2 (.slice (some ⟨g, 0, none⟩) k cap9) k (flatR (pairsL b.data.toList))) := hown
      clear hown
      obtain ⟨⟨c0, c1, c2, c3, c4, c5, c6, c7⟩, ⟨f0, f1, f2, f3, f4, f5, f6, f7⟩, -⟩ := hA.eight
      obtain ⟨⟨r0, r1, r2, r3, r4, r5, r6, r7⟩, ⟨g0, g1, g2, g3, g4, g5, g6, g7⟩, -⟩ := hR.eight
      go_wp2
      exact bodyPost_ret (v := .tuple #[.agg #[.int .i64 m, .int .i64 c, .int .i64 t, .int .i64 ec, .bool sd, .bool ok, .bool sp, .slice (some ⟨g, 0, none⟩) k cap9], .bool true]) (by simp [results, Tryz.results117, go_sem, r0, r1, r2, r3, r4, r5, r6, r7]) rfl ⟨_, rfl, by rw [HPL.out]; exact own_mono (own_set8 HO.out (w.heap.size + 1) (by omega) _ _ _ _ _ _ _ _) (by omega), below8 hbl (Nat.le_succ _) _ _ _ _ _ _ _ _⟩
end Go.Proofs.YtkpdmgoldngdaaaGreatDoor

namespace Go.Proofs.YtkpdmgoldngdaaaGreatDoor
open Go.RowKit
set_option maxRecDepth 100000

def OV (o : Op) (v : Value) : Array Value := #[.int .i64 o.m, .int .i64 o.c, .int .i64 o.t, .int .i64 o.ec, .bool o.sd, .bool o.ok, .bool o.sp, v]
theorem whole_take (l : List UInt8) (k : Nat) (h : l.length = k) : (l.drop 0).take k = l := by rw [List.drop_zero, List.take_of_length_le (by omega)]
theorem read_any (o : Op) (v : Value) (kind : Int) (b : ByteArray) (R0 : Nat) (w : World) (hown : w.ownsRow R0 148 2 v o.rs.length (flatR o.rs)) (hnil : o.rs = [] → v = .slice none 0 0) (hs : b.size ≤ 40) (hf : followsB o kind b.size = true) (hR0 : R0 ≤ w.heap.size) :
    Calls Tryz.prog 117 #[.agg (OV o v), .int .i64 kind, .string b] w fun en w' => ∃ v', en = .returned (.tuple #[.agg (OV (takeO o kind b.data.toList) v'), .bool (saysB kind b.data.toList)]) ∧ w'.ownsRow R0 148 2 v' (takeO o kind b.data.toList).rs.length (flatR (takeO o kind b.data.toList).rs) ∧ ((takeO o kind b.data.toList).rs = [] → v' = .slice none 0 0) ∧ Below w.heap.size w w' := by
  obtain ⟨m, c, t, ec, sd, ok, sp, rs⟩ := o
  have hl : b.data.toList.length = b.size := toList_size b
  unfold followsB at hf
  by_cases h5 : kind = 5
  · subst h5
    rw [if_pos rfl] at hf
    simp only [Bool.and_eq_true, decide_eq_true_eq] at hf
    obtain ⟨⟨h0, h8⟩, hr⟩ := hf
    have hr0 : rs = [] := List.eq_nil_of_length_eq_zero hr
    subst hr0
    obtain rfl := hnil rfl
    have ht : takeO ⟨m, c, t, ec, sd, ok, sp, []⟩ 5 b.data.toList = ⟨m, c, t, ec, sd, ok, sp, pairsL b.data.toList⟩ := by simp [takeO]
    have hsy : saysB 5 b.data.toList = true := by simp [saysB]
    rw [ht, hsy]
    refine (read_5 m c t ec sd ok sp w b hs h0 h8).mono ?_
    rintro en w' ⟨v', rfl, ho, hb⟩
    refine ⟨v', rfl, own_mono ho hR0, fun h => ?_, hb⟩
    have := pairs_len b
    have h' : pairsL b.data.toList = [] := h
    rw [h'] at this
    simp at this
    omega
  rw [if_neg h5] at hf
  obtain ⟨a, cap, hv, -, -⟩ := own_slice hown
  have hv' : v = .slice a rs.length cap := hv
  subst hv'
  by_cases h2 : kind = 2
  · subst h2
    rw [if_pos rfl] at hf
    simp only [Bool.and_eq_true, decide_eq_true_eq] at hf
    have ht : takeO ⟨m, c, t, ec, sd, ok, sp, rs⟩ 2 b.data.toList = ⟨numL b.data.toList, c, t, ec, sd, ok, sp, rs⟩ := by simp [takeO]
    have hsy : saysB 2 b.data.toList = (numL b.data.toList != 0) := by
      simp only [saysB, decide_true, Bool.true_and]; rfl
    rw [ht, hsy]
    have := read_2 m c t ec sd ok sp a cap rs R0 w hown b hf.1
    rw [whole_take _ _ (hl.trans hf.1)] at this
    refine this.mono ?_
    rintro en w' ⟨rfl, ho, hb⟩
    exact ⟨_, rfl, ho, hnil, hb⟩
  rw [if_neg h2] at hf
  have hsy : saysB kind b.data.toList = true := by simp [saysB, h2]
  rw [hsy]
  by_cases h3 : kind = 3
  · subst h3
    rw [if_pos rfl] at hf
    simp only [Bool.and_eq_true, decide_eq_true_eq] at hf
    have ht : takeO ⟨m, c, t, ec, sd, ok, sp, rs⟩ 3 b.data.toList = ⟨m, numL b.data.toList, t, ec, true, ok, sp, rs⟩ := by simp [takeO]
    rw [ht]
    have := read_3 m c t ec sd ok sp a cap rs R0 w hown b hf.1
    rw [whole_take _ _ (hl.trans hf.1)] at this
    refine this.mono ?_
    rintro en w' ⟨rfl, ho, hb⟩
    exact ⟨_, rfl, ho, hnil, hb⟩
  rw [if_neg h3] at hf
  by_cases h4 : kind = 4
  · subst h4
    have ht : takeO ⟨m, c, t, ec, sd, ok, sp, rs⟩ 4 b.data.toList = ⟨m, c, t, ec, sd, true, sp, rs⟩ := by simp [takeO]
    rw [ht]
    refine (read_4 m c t ec sd ok sp a cap rs R0 w hown b).mono ?_
    rintro en w' ⟨rfl, ho, hb⟩
    exact ⟨_, rfl, ho, hnil, hb⟩
  rw [if_neg h4] at hf
  by_cases h8 : kind = 8
  · subst h8
    rw [if_pos rfl] at hf
    simp only [Bool.and_eq_true, decide_eq_true_eq] at hf
    have ht : takeO ⟨m, c, t, ec, sd, ok, sp, rs⟩ 8 b.data.toList = ⟨m, c, numL (b.data.toList.take 4), numL (b.data.toList.drop 4), sd, ok, true, rs⟩ := by simp [takeO]
    rw [ht]
    have := read_8 m c t ec sd ok sp a cap rs R0 w hown b hf.1
    rw [List.drop_zero, List.take_of_length_le (l := b.data.toList.drop 4) (by rw [List.length_drop, hl, hf.1]; omega)] at this
    refine this.mono ?_
    rintro en w' ⟨rfl, ho, hb⟩
    exact ⟨_, rfl, ho, hnil, hb⟩
  have ht : takeO ⟨m, c, t, ec, sd, ok, sp, rs⟩ kind b.data.toList = ⟨m, c, t, ec, sd, ok, sp, rs⟩ := by simp [takeO, h2, h3, h4, h8, h5]
  rw [ht]
  refine (read_x m c t ec sd ok sp a cap rs R0 w hown b kind h2 h3 h4 h8 h5).mono ?_
  rintro en w' ⟨rfl, ho, hb⟩
  exact ⟨_, rfl, ho, hnil, hb⟩

def runS (x : ByteArray) (o : Op) : Option Op := runO (x.size + 1) x.data.toList o
def headN (x : ByteArray) : Nat := (x.data.toList.getD 0 0).toNat
theorem byte0 (x : ByteArray) (h : 0 < x.size) : (x[0].toNat : Int) = (headN x : Int) := by
  unfold headN
  have h' : 0 < x.data.toList.length := by simpa using h
  rw [List.getD_eq_getElem?_getD, List.getElem?_eq_getElem h']
  rfl
theorem headN_le (x : ByteArray) : headN x ≤ 255 := by unfold headN; have := (x.data.toList.getD 0 0).toNat_lt; omega
theorem run_nil (x : ByteArray) (o : Op) (h : x.size = 0) : runS x o = some o := by
  unfold runS
  have : x.data.toList = [] := List.eq_nil_of_length_eq_zero (by rw [toList_size, h])
  rw [this, h]; rfl
theorem list_split (x : ByteArray) (h : 0 < x.size) : x.data.toList = x.data.toList.getD 0 0 :: x.data.toList.drop 1 := by
  have h' : 0 < x.data.toList.length := by simpa using h
  cases hx : x.data.toList with
  | nil => rw [hx] at h'; simp at h'
  | cons a l => simp [List.getD]
theorem run_zero (x : ByteArray) (o : Op) (h : 0 < x.size) (h0 : headN x = 0) : runS x o = some o := by
  unfold runS
  rw [list_split x h]
  have e : x.data.toList.getD 0 0 = 0 := UInt8.toNat.inj h0
  rw [e]
  simp [runO]
theorem ext_list (x : ByteArray) (i j : Nat) (_ : j ≤ x.size) : (x.extract i j).data.toList = (x.data.toList.drop i).take (j - i) := by
  rw [ByteArray.data_extract, Array.toList_extract, List.extract_eq_take_drop]
theorem run_one (x : ByteArray) (o : Op) (h : 0 < x.size) (h1 : headN x = 1) : runS x o = runS (x.extract 1 x.size) o := by
  have e : x.data.toList.getD 0 0 = 1 := UInt8.toNat.inj h1
  have hx : (x.extract 1 x.size).data.toList = x.data.toList.drop 1 := by
    rw [ext_list x 1 _ (Nat.le_refl _), List.take_of_length_le (by rw [List.length_drop, toList_size]; exact Nat.le_refl _)]
  unfold runS
  rw [hx]
  conv => lhs; rw [list_split x h, e]
  simp only [runO]
  rw [if_neg (by decide), if_pos trivial]
  refine runO_fuel _ _ _ _ ?_ ?_
  · rw [List.length_drop, toList_size]; omega
  · rw [List.length_drop, toList_size, ByteArray.size_extract]; omega
def nextO (r : Option Op) (y : ByteArray) : Option Op := match r with
  | none => none
  | some o' => runS y o'
def okO (r : Option Op) : Option Op := match r with
  | none => none
  | some o => if o.may = true then some o else none
theorem run_more (x : ByteArray) (o : Op) (h : 0 < x.size) (h0 : headN x ≠ 0) (h1 : headN x ≠ 1) : runS x o = if firstB x = true then nextO (stepO o (headN x : Int) (x.extract 2 (firstN x)).data.toList) (x.extract (firstN x) x.size) else none := by
  have e0 : ¬ x.data.toList.getD 0 0 = 0 := fun e => h0 (by unfold headN; rw [e]; rfl)
  have e1 : ¬ x.data.toList.getD 0 0 = 1 := fun e => h1 (by unfold headN; rw [e]; rfl)
  unfold nextO runS
  conv => lhs; rw [list_split x h]
  simp only [runO]
  rw [if_neg e0, if_neg e1]
  by_cases h2 : 2 ≤ x.size
  · have hd : x.data.toList.drop 1 = x.data.toList.getD 1 0 :: x.data.toList.drop 2 := by
      have h' : 1 < x.data.toList.length := by rw [toList_size]; omega
      rw [List.drop_eq_getElem_cons h']
      congr 1
      rw [List.getD_eq_getElem?_getD, List.getElem?_eq_getElem h']; rfl
    rw [hd]
    simp only
    have hl : (x.data.toList.drop 2).length + 2 = x.size := by rw [List.length_drop, toList_size]; omega
    rw [hl]
    by_cases hf : firstB x = true
    · obtain ⟨-, f1, f2⟩ := of_decide_eq_true (show decide (2 ≤ x.size ∧ 2 ≤ (x.data.toList.getD 1 0).toNat ∧ (x.data.toList.getD 1 0).toNat ≤ x.size) = true from hf)
      rw [if_neg (by omega), if_pos hf]
      have e2 : (x.extract 2 (firstN x)).data.toList = (x.data.toList.drop 2).take ((x.data.toList.getD 1 0).toNat - 2) := ext_list x 2 _ f2
      have e3 : (x.extract (firstN x) x.size).data.toList = (x.data.toList.drop 2).drop ((x.data.toList.getD 1 0).toNat - 2) := by
        rw [ext_list x _ _ (Nat.le_refl _), List.take_of_length_le (by rw [List.length_drop, toList_size]; exact Nat.le_refl _), List.drop_drop]
        congr 1
        show (x.data.toList.getD 1 0).toNat = _
        omega
      rw [e2, e3]
      show (match stepO o (headN x : Int) _ with | none => none | some o' => _) = _
      cases stepO o (headN x : Int) ((x.data.toList.drop 2).take ((x.data.toList.getD 1 0).toNat - 2)) with
      | none => rfl
      | some o' =>
        refine runO_fuel _ _ _ _ ?_ ?_
        · rw [List.length_drop, List.length_drop, toList_size]; omega
        · rw [List.length_drop, List.length_drop, toList_size, ByteArray.size_extract]
          show _ < min x.size x.size - (x.data.toList.getD 1 0).toNat + 1
          omega
    · rw [if_neg hf]
      have hf' := of_decide_eq_false (show decide (2 ≤ x.size ∧ 2 ≤ (x.data.toList.getD 1 0).toNat ∧ (x.data.toList.getD 1 0).toNat ≤ x.size) = false by simpa [firstB] using hf)
      rw [if_pos (by omega)]
  · have hd : x.data.toList.drop 1 = [] := List.drop_eq_nil_of_le (by rw [toList_size]; omega)
    rw [hd]
    rw [if_neg (by unfold firstB; simp; omega)]
theorem decO_s (s : ByteArray) (h : s.size ≤ 40) : decO s.data.toList = okO (runS s Op.zero) := by
  unfold decO runS okO
  rw [if_neg (by rw [toList_size]; omega), runO_fuel 41 s.data.toList Op.zero (s.size + 1) (by rw [toList_size]; omega) (by rw [toList_size]; omega)]
  all_goals (cases runO (s.size + 1) s.data.toList Op.zero <;> rfl)
end Go.Proofs.YtkpdmgoldngdaaaGreatDoor
