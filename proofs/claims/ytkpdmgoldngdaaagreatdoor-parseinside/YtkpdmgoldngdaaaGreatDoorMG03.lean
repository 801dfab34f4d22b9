/- the texts Oa, Rd, Re, Ra, Rb, in part, merged by program -/
import Derived.Test.YtkpdmgoldngdaaaGreatDoorProg
import Derived.Test.YtkpdmgoldngdaaaGreatDoorRows
import Derived.Laws.OwnMore
import Derived.Laws.AppendOwn
import Derived.Laws.AppendOwnNone
import Derived.WalkKit
import Derived.WalkSpells
import Derived.Deep.Cut
import Derived.RegionTactic
import Derived.Below
import Derived.Deep.LoopGhost
import Derived.Deep.RegionHeld3
import Derived.Deep.QuietTactic
import Derived.BigQuiet
import Derived.WalkSmall
import Derived.Laws.StructEq
import Derived.BigRegion
import Derived.Shelf.Strings.Repeat
import Derived.Laws.Tables
import Derived.Great.BuildSlice
import Derived.Deep.CutRange
import Derived.Test.YtkpdmgoldngdaaaGreatDoorMA01
import Derived.Test.YtkpdmgoldngdaaaGreatDoorMA04
import Derived.Test.YtkpdmgoldngdaaaGreatDoorMD01
import Derived.Test.YtkpdmgoldngdaaaGreatDoorMD02
import Derived.Test.YtkpdmgoldngdaaaGreatDoorMD03
import Derived.Test.YtkpdmgoldngdaaaGreatDoorMG01
namespace Go.Proofs.YtkpdmgoldngdaaaGreatDoor
open Go.RowKit
set_option maxRecDepth 100000
theorem longN_le (m : Int) (sd ok sp : Bool) (n : Nat) : n * 8 ≤ longN m sd ok sp n ∧ longN m sd ok sp n ≤ n * 8 + 24 := by
  have := lenK_le m sd ok sp n 5
  unfold longN
  omega
end Go.Proofs.YtkpdmgoldngdaaaGreatDoor

namespace Go.Proofs.YtkpdmgoldngdaaaGreatDoor
open Go.RowKit
set_option maxRecDepth 100000
set_option linter.unusedVariables false
theorem At.nine {W : World} {b : Nat} {v0 v1 v2 v3 v4 v5 v6 v7 v8 : Value} (h : At W b #[v0, v1, v2, v3, v4, v5, v6, v7, v8]) : (W.cell? ⟨b, 0, none⟩ = some v0 ∧ W.cell? ⟨b, 1, none⟩ = some v1 ∧ W.cell? ⟨b, 2, none⟩ = some v2 ∧ W.cell? ⟨b, 3, none⟩ = some v3 ∧ W.cell? ⟨b, 4, none⟩ = some v4 ∧ W.cell? ⟨b, 5, none⟩ = some v5 ∧ W.cell? ⟨b, 6, none⟩ = some v6 ∧ W.cell? ⟨b, 7, none⟩ = some v7 ∧ W.cell? ⟨b, 8, none⟩ = some v8) ∧ (W.frozen? ⟨b, 0, none⟩ = false ∧ W.frozen? ⟨b, 1, none⟩ = false ∧ W.frozen? ⟨b, 2, none⟩ = false ∧ W.frozen? ⟨b, 3, none⟩ = false ∧ W.frozen? ⟨b, 4, none⟩ = false ∧ W.frozen? ⟨b, 5, none⟩ = false ∧ W.frozen? ⟨b, 6, none⟩ = false ∧ W.frozen? ⟨b, 7, none⟩ = false ∧ W.frozen? ⟨b, 8, none⟩ = false) ∧ b < W.heap.size :=
  ⟨⟨(h.2 0 _ rfl).1, (h.2 1 _ rfl).1, (h.2 2 _ rfl).1, (h.2 3 _ rfl).1, (h.2 4 _ rfl).1, (h.2 5 _ rfl).1, (h.2 6 _ rfl).1, (h.2 7 _ rfl).1, (h.2 8 _ rfl).1⟩, ⟨(h.2 0 _ rfl).2, (h.2 1 _ rfl).2, (h.2 2 _ rfl).2, (h.2 3 _ rfl).2, (h.2 4 _ rfl).2, (h.2 5 _ rfl).2, (h.2 6 _ rfl).2, (h.2 7 _ rfl).2, (h.2 8 _ rfl).2⟩, h.1⟩
theorem ne_empty' (x : ByteArray) (h : 0 < x.size) : x.toList.isEmpty = false := by
  rw [ByteArray.toList_eq]
  cases e : x.data.toList with
  | nil =>
    have : x.size = 0 := by rw [← toList_size, e]; rfl
    omega
  | cons a l => rfl
def seenA (o : Op) : Array Value := #[.bool false, .bool false, .bool (o.m != 0), .bool o.sd, .bool o.ok, .bool (decide (0 < o.rs.length)), .bool false, .bool false, .bool o.sp]
def PartPost (r : Option Op) (B : Nat) (w : World) (en : Ending) (w' : World) : Prop := match r with
  | none => en = .returned (.bool false) ∧ Below (B + 1) w w'
  | some o => ∃ v, en = .returned (.bool true) ∧ At w' (B + 1) (OV o v) ∧ At w' (B + 2) (seenA o) ∧ w'.ownsRow (B + 3) 148 2 v o.rs.length (flatR o.rs) ∧ (o.rs = [] → v = .slice none 0 0) ∧ Below (B + 1) w w'
set_option maxRecDepth 100000 in
set_option maxHeartbeats 2000000 in
theorem rp_x (m c t ec : Int) (sd ok sp : Bool) (v : Value) (rs : List (Int × Int)) (B : Nat) (w : World) (hP : At w (B + 1) #[.int .i64 m, .int .i64 c, .int .i64 t, .int .i64 ec, .bool sd, .bool ok, .bool sp, v]) (hQ : At w (B + 2) #[.bool false, .bool false, .bool (m != 0), .bool sd, .bool ok, .bool (decide (0 < rs.length)), .bool false, .bool false, .bool sp]) (hown : w.ownsRow (B + 3) 148 2 v rs.length (flatR rs)) (hnil : rs = [] → v = .slice none 0 0) (b : ByteArray) (hs : b.size ≤ 38) (kind : Int) (h2 : ¬ kind = 2) (h3 : ¬ kind = 3) (h4 : ¬ kind = 4) (h8 : ¬ kind = 8) (h5 : ¬ kind = 5) :
    Calls Tryz.prog 121 #[.pointer (some ⟨B + 1, 0, none⟩), .int .i64 kind, .string b, .slice (some ⟨B + 2, 0, none⟩) 9 9] w fun en w' => PartPost (some ⟨m, c, t, ec, sd, ok, sp, rs⟩) B w en w' := by
  have hway : 8 < kind ∨ (¬ 8 < kind ∧ kind < 2) ∨ (¬ 8 < kind ∧ ¬ kind < 2 ∧ 5 < kind ∧ kind < 8) := by omega
  rcases hway with h | ⟨ha, hb⟩ | ⟨ha, hb, hc, hd⟩
  all_goals
    go_enter Tryz.func121, Tryz.ntmps121
    go_wp2
    go_ret
    exact ⟨v, rfl, hP, hQ, hown, hnil, Below.refl _ _⟩
set_option maxRecDepth 100000 in
set_option maxHeartbeats 2000000 in
theorem rp_2 (m c t ec : Int) (sd ok sp : Bool) (v : Value) (rs : List (Int × Int)) (B : Nat) (w : World) (hP : At w (B + 1) #[.int .i64 m, .int .i64 c, .int .i64 t, .int .i64 ec, .bool sd, .bool ok, .bool sp, v]) (hQ : At w (B + 2) #[.bool false, .bool false, .bool (m != 0), .bool sd, .bool ok, .bool (decide (0 < rs.length)), .bool false, .bool false, .bool sp]) (hown : w.ownsRow (B + 3) 148 2 v rs.length (flatR rs)) (hnil : rs = [] → v = .slice none 0 0) (b : ByteArray) (hs : b.size ≤ 38) :
    Calls Tryz.prog 121 #[.pointer (some ⟨B + 1, 0, none⟩), .int .i64 2, .string b, .slice (some ⟨B + 2, 0, none⟩) 9 9] w fun en w' => PartPost (stepO ⟨m, c, t, ec, sd, ok, sp, rs⟩ 2 b.data.toList) B w en w' := by
  have hlen : b.data.toList.length = b.size := toList_size b
  by_cases hm : m = 0
  · subst hm
    by_cases hl : b.size = 2
    · have hnum : numS b = numL b.data.toList := rfl
      have h2' : (b.size : Int) = 2 := by omega
      by_cases hx : numL b.data.toList = 0
      · have hst : stepO ⟨0, c, t, ec, sd, ok, sp, rs⟩ 2 b.data.toList = none := by simp [stepO, followsB, saysB, hx]
        rw [hst]
        obtain ⟨⟨c0, c1, c2, c3, c4, c5, c6, c7⟩, ⟨f0, f1, f2, f3, f4, f5, f6, f7⟩, hlP⟩ := hP.eight
        obtain ⟨⟨s0, s1, s2, s3, s4, s5, s6, s7, s8⟩, ⟨q0, q1, q2, q3, q4, q5, q6, q7, q8⟩, hlQ⟩ := hQ.nine
        have hr := fun W => num_any b W (by omega)
        rw [hnum, hx] at hr
        go_enter Tryz.func121, Tryz.ntmps121
        go_wp2_with fail
        refine (hr _).mono ?_
        rintro e w' ⟨rfl, rfl⟩
        go_wp2
        go_ret
        exact ⟨rfl, (((Below.refl (B + 1) w).setCell (p := ⟨B + 2, 2, none⟩) (by show B + 1 ≤ B + _; omega) _).setCell (p := ⟨B + 1, 0, none⟩) (by show B + 1 ≤ B + _; omega) _)⟩
      · have hst : stepO ⟨0, c, t, ec, sd, ok, sp, rs⟩ 2 b.data.toList = some ⟨numL b.data.toList, c, t, ec, sd, ok, sp, rs⟩ := by simp [stepO, followsB, saysB, takeO, hx, hlen, hl]
        rw [hst]
        have hr := fun W => num_any b W (by omega)
        rw [hnum] at hr
        have HX : Hid ((numL b.data.toList != 0) = true) := by show _ = _; simpa using hx
        generalize numL b.data.toList = X at *
        obtain ⟨⟨c0, c1, c2, c3, c4, c5, c6, c7⟩, ⟨f0, f1, f2, f3, f4, f5, f6, f7⟩, hlP⟩ := hP.eight
        obtain ⟨⟨s0, s1, s2, s3, s4, s5, s6, s7, s8⟩, ⟨q0, q1, q2, q3, q4, q5, q6, q7, q8⟩, hlQ⟩ := hQ.nine
        clear hst hnum
        go_enter Tryz.func121, Tryz.ntmps121
        go_wp2_with fail
        refine (hr _).mono ?_
        rintro e w' ⟨rfl, rfl⟩
        go_wp2
        go_ret
        exact ⟨v, by rw [HX.out]; rfl, (show At _ (B + 1) #[.int .i64 X, .int .i64 c, .int .i64 t, .int .i64 ec, .bool sd, .bool ok, .bool sp, v] from ((hP.keep (b := B + 2) (by omega) 2 (.bool true)).set 0 (.int .i64 X))), (show At _ (B + 2) #[.bool false, .bool false, .bool (X != 0), .bool sd, .bool ok, .bool (decide (0 < rs.length)), .bool false, .bool false, .bool sp] from by rw [HX.out]; exact ((hQ.set 2 (.bool true)).keep (b := B + 1) (by omega) 0 (.int .i64 X))), (own_setCell (own_setCell hown (B + 2) 2 _ (by omega)) (B + 1) 0 _ (by omega)), hnil, (((Below.refl (B + 1) w).setCell (p := ⟨B + 2, 2, none⟩) (by show B + 1 ≤ B + _; omega) _).setCell (p := ⟨B + 1, 0, none⟩) (by show B + 1 ≤ B + _; omega) _)⟩
    · have hst : stepO ⟨0, c, t, ec, sd, ok, sp, rs⟩ 2 b.data.toList = none := by simp [stepO, followsB, hlen, hl]
      rw [hst]
      have hl' : ¬ (b.size : Int) = 2 := by omega
      have hl2 : ((b.size : Int) != 2) = true := by simpa using hl'
      obtain ⟨⟨c0, c1, c2, c3, c4, c5, c6, c7⟩, ⟨f0, f1, f2, f3, f4, f5, f6, f7⟩, hlP⟩ := hP.eight
      obtain ⟨⟨s0, s1, s2, s3, s4, s5, s6, s7, s8⟩, ⟨q0, q1, q2, q3, q4, q5, q6, q7, q8⟩, hlQ⟩ := hQ.nine
      go_enter Tryz.func121, Tryz.ntmps121
      go_wp2
      go_ret
      exact ⟨rfl, ((Below.refl (B + 1) w).setCell (p := ⟨B + 2, 2, none⟩) (by show B + 1 ≤ B + _; omega) _)⟩
  · have hst : stepO ⟨m, c, t, ec, sd, ok, sp, rs⟩ 2 b.data.toList = none := by simp [stepO, followsB, hm]
    have hm' : (m != 0) = true := by simpa using hm
    rw [hst]
    rw [hm'] at hQ
    obtain ⟨⟨c0, c1, c2, c3, c4, c5, c6, c7⟩, ⟨f0, f1, f2, f3, f4, f5, f6, f7⟩, hlP⟩ := hP.eight
    obtain ⟨⟨s0, s1, s2, s3, s4, s5, s6, s7, s8⟩, ⟨q0, q1, q2, q3, q4, q5, q6, q7, q8⟩, hlQ⟩ := hQ.nine
    go_enter Tryz.func121, Tryz.ntmps121
    go_wp2
    go_ret
    exact ⟨rfl, Below.refl _ _⟩
set_option maxRecDepth 100000 in
set_option maxHeartbeats 2000000 in
theorem rp_3 (m c t ec : Int) (sd ok sp : Bool) (v : Value) (rs : List (Int × Int)) (B : Nat) (w : World) (hP : At w (B + 1) #[.int .i64 m, .int .i64 c, .int .i64 t, .int .i64 ec, .bool sd, .bool ok, .bool sp, v]) (hQ : At w (B + 2) #[.bool false, .bool false, .bool (m != 0), .bool sd, .bool ok, .bool (decide (0 < rs.length)), .bool false, .bool false, .bool sp]) (hown : w.ownsRow (B + 3) 148 2 v rs.length (flatR rs)) (hnil : rs = [] → v = .slice none 0 0) (b : ByteArray) (hs : b.size ≤ 38) :
    Calls Tryz.prog 121 #[.pointer (some ⟨B + 1, 0, none⟩), .int .i64 3, .string b, .slice (some ⟨B + 2, 0, none⟩) 9 9] w fun en w' => PartPost (stepO ⟨m, c, t, ec, sd, ok, sp, rs⟩ 3 b.data.toList) B w en w' := by
  have hlen : b.data.toList.length = b.size := toList_size b
  rcases Bool.eq_false_or_eq_true sd with hh | hh
  all_goals subst hh
  · have hst : stepO ⟨m, c, t, ec, true, ok, sp, rs⟩ 3 b.data.toList = none := by simp [stepO, followsB]
    rw [hst]
    obtain ⟨⟨c0, c1, c2, c3, c4, c5, c6, c7⟩, ⟨f0, f1, f2, f3, f4, f5, f6, f7⟩, hlP⟩ := hP.eight
    obtain ⟨⟨s0, s1, s2, s3, s4, s5, s6, s7, s8⟩, ⟨q0, q1, q2, q3, q4, q5, q6, q7, q8⟩, hlQ⟩ := hQ.nine
    go_enter Tryz.func121, Tryz.ntmps121
    go_wp2
    go_ret
    exact ⟨rfl, Below.refl _ _⟩
  · by_cases hl : b.size = 1
    · obtain ⟨y, rfl⟩ : ∃ y, b = ⟨#[y]⟩ := by
        obtain ⟨⟨l⟩⟩ := b
        match l, hl with
        | [y], _ => exact ⟨y, rfl⟩
      have hst : stepO ⟨m, c, t, ec, false, ok, sp, rs⟩ 3 [y] = some ⟨m, (y.toNat : Int), t, ec, true, ok, sp, rs⟩ := by simp [stepO, followsB, saysB, takeO, numL]
      show Calls _ _ _ _ fun en w' => PartPost (stepO _ 3 [y]) B w en w'
      rw [hst]
      have hsz : (⟨#[y]⟩ : ByteArray).size = 1 := rfl
      have hiy : (⟨#[y]⟩ : ByteArray)[0] = y := rfl
      have hyb : (y.toNat : Int) < 256 := by have := y.toNat_lt; omega
      obtain ⟨⟨c0, c1, c2, c3, c4, c5, c6, c7⟩, ⟨f0, f1, f2, f3, f4, f5, f6, f7⟩, hlP⟩ := hP.eight
      obtain ⟨⟨s0, s1, s2, s3, s4, s5, s6, s7, s8⟩, ⟨q0, q1, q2, q3, q4, q5, q6, q7, q8⟩, hlQ⟩ := hQ.nine
      go_enter Tryz.func121, Tryz.ntmps121
      go_wp2
      go_ret
      exact ⟨v, rfl, (show At _ (B + 1) #[.int .i64 m, .int .i64 (y.toNat : Int), .int .i64 t, .int .i64 ec, .bool true, .bool ok, .bool sp, v] from (((hP.keep (b := B + 2) (by omega) 3 (.bool true)).set 1 (.int .i64 (y.toNat : Int))).set 4 (.bool true))), (show At _ (B + 2) #[.bool false, .bool false, .bool (m != 0), .bool true, .bool ok, .bool (decide (0 < rs.length)), .bool false, .bool false, .bool sp] from (((hQ.set 3 (.bool true)).keep (b := B + 1) (by omega) 1 (.int .i64 (y.toNat : Int))).keep (b := B + 1) (by omega) 4 (.bool true))), (own_setCell (own_setCell (own_setCell hown (B + 2) 3 _ (by omega)) (B + 1) 1 _ (by omega)) (B + 1) 4 _ (by omega)), hnil, ((((Below.refl (B + 1) w).setCell (p := ⟨B + 2, 3, none⟩) (by show B + 1 ≤ B + _; omega) _).setCell (p := ⟨B + 1, 1, none⟩) (by show B + 1 ≤ B + _; omega) _).setCell (p := ⟨B + 1, 4, none⟩) (by show B + 1 ≤ B + _; omega) _)⟩
    · have hst : stepO ⟨m, c, t, ec, false, ok, sp, rs⟩ 3 b.data.toList = none := by simp [stepO, followsB, hlen, hl]
      rw [hst]
      have hl2 : ((b.size : Int) != 1) = true := by simp; omega
      obtain ⟨⟨c0, c1, c2, c3, c4, c5, c6, c7⟩, ⟨f0, f1, f2, f3, f4, f5, f6, f7⟩, hlP⟩ := hP.eight
      obtain ⟨⟨s0, s1, s2, s3, s4, s5, s6, s7, s8⟩, ⟨q0, q1, q2, q3, q4, q5, q6, q7, q8⟩, hlQ⟩ := hQ.nine
      go_enter Tryz.func121, Tryz.ntmps121
      go_wp2
      go_ret
      exact ⟨rfl, ((Below.refl (B + 1) w).setCell (p := ⟨B + 2, 3, none⟩) (by show B + 1 ≤ B + _; omega) _)⟩
set_option maxRecDepth 100000 in
set_option maxHeartbeats 2000000 in
theorem rp_4 (m c t ec : Int) (sd ok sp : Bool) (v : Value) (rs : List (Int × Int)) (B : Nat) (w : World) (hP : At w (B + 1) #[.int .i64 m, .int .i64 c, .int .i64 t, .int .i64 ec, .bool sd, .bool ok, .bool sp, v]) (hQ : At w (B + 2) #[.bool false, .bool false, .bool (m != 0), .bool sd, .bool ok, .bool (decide (0 < rs.length)), .bool false, .bool false, .bool sp]) (hown : w.ownsRow (B + 3) 148 2 v rs.length (flatR rs)) (hnil : rs = [] → v = .slice none 0 0) (b : ByteArray) (hs : b.size ≤ 38) :
    Calls Tryz.prog 121 #[.pointer (some ⟨B + 1, 0, none⟩), .int .i64 4, .string b, .slice (some ⟨B + 2, 0, none⟩) 9 9] w fun en w' => PartPost (stepO ⟨m, c, t, ec, sd, ok, sp, rs⟩ 4 b.data.toList) B w en w' := by
  have hlen : b.data.toList.length = b.size := toList_size b
  rcases Bool.eq_false_or_eq_true ok with hh | hh
  all_goals subst hh
  · have hst : stepO ⟨m, c, t, ec, sd, true, sp, rs⟩ 4 b.data.toList = none := by simp [stepO, followsB]
    rw [hst]
    obtain ⟨⟨c0, c1, c2, c3, c4, c5, c6, c7⟩, ⟨f0, f1, f2, f3, f4, f5, f6, f7⟩, hlP⟩ := hP.eight
    obtain ⟨⟨s0, s1, s2, s3, s4, s5, s6, s7, s8⟩, ⟨q0, q1, q2, q3, q4, q5, q6, q7, q8⟩, hlQ⟩ := hQ.nine
    go_enter Tryz.func121, Tryz.ntmps121
    go_wp2
    go_ret
    exact ⟨rfl, Below.refl _ _⟩
  · by_cases hl : b.size = 0
    · obtain rfl : b = ⟨#[]⟩ := by
        obtain ⟨⟨l⟩⟩ := b
        match l, hl with
        | [], _ => rfl
      have hst : stepO ⟨m, c, t, ec, sd, false, sp, rs⟩ 4 [] = some ⟨m, c, t, ec, sd, true, sp, rs⟩ := by simp [stepO, followsB, saysB, takeO]
      show Calls _ _ _ _ fun en w' => PartPost (stepO _ 4 []) B w en w'
      rw [hst]
      obtain ⟨⟨c0, c1, c2, c3, c4, c5, c6, c7⟩, ⟨f0, f1, f2, f3, f4, f5, f6, f7⟩, hlP⟩ := hP.eight
      obtain ⟨⟨s0, s1, s2, s3, s4, s5, s6, s7, s8⟩, ⟨q0, q1, q2, q3, q4, q5, q6, q7, q8⟩, hlQ⟩ := hQ.nine
      go_enter Tryz.func121, Tryz.ntmps121
      go_wp2
      go_ret
      exact ⟨v, rfl, (show At _ (B + 1) #[.int .i64 m, .int .i64 c, .int .i64 t, .int .i64 ec, .bool sd, .bool true, .bool sp, v] from ((hP.keep (b := B + 2) (by omega) 4 (.bool true)).set 5 (.bool true))), (show At _ (B + 2) #[.bool false, .bool false, .bool (m != 0), .bool sd, .bool true, .bool (decide (0 < rs.length)), .bool false, .bool false, .bool sp] from ((hQ.set 4 (.bool true)).keep (b := B + 1) (by omega) 5 (.bool true))), (own_setCell (own_setCell hown (B + 2) 4 _ (by omega)) (B + 1) 5 _ (by omega)), hnil, (((Below.refl (B + 1) w).setCell (p := ⟨B + 2, 4, none⟩) (by show B + 1 ≤ B + _; omega) _).setCell (p := ⟨B + 1, 5, none⟩) (by show B + 1 ≤ B + _; omega) _)⟩
    · have hst : stepO ⟨m, c, t, ec, sd, false, sp, rs⟩ 4 b.data.toList = none := by simp [stepO, followsB, hlen, hl]
      rw [hst]
      have hne : b.toList.isEmpty = false := ne_empty' b (by omega)
      have hne2 : ¬ b = ⟨#[]⟩ := fun e => hl (by rw [e]; rfl)
      obtain ⟨⟨c0, c1, c2, c3, c4, c5, c6, c7⟩, ⟨f0, f1, f2, f3, f4, f5, f6, f7⟩, hlP⟩ := hP.eight
      obtain ⟨⟨s0, s1, s2, s3, s4, s5, s6, s7, s8⟩, ⟨q0, q1, q2, q3, q4, q5, q6, q7, q8⟩, hlQ⟩ := hQ.nine
      go_enter Tryz.func121, Tryz.ntmps121
      go_wp2
      go_ret
      exact ⟨by first | rfl | simp [hne2] | simp [hne], (((Below.refl (B + 1) w).setCell (p := ⟨B + 2, 4, none⟩) (by show B + 1 ≤ B + _; omega) _).setCell (p := ⟨B + 1, 5, none⟩) (by show B + 1 ≤ B + _; omega) _)⟩
set_option maxRecDepth 100000 in
set_option maxHeartbeats 2000000 in
theorem rp_8 (m c t ec : Int) (sd ok sp : Bool) (v : Value) (rs : List (Int × Int)) (B : Nat) (w : World) (hP : At w (B + 1) #[.int .i64 m, .int .i64 c, .int .i64 t, .int .i64 ec, .bool sd, .bool ok, .bool sp, v]) (hQ : At w (B + 2) #[.bool false, .bool false, .bool (m != 0), .bool sd, .bool ok, .bool (decide (0 < rs.length)), .bool false, .bool false, .bool sp]) (hown : w.ownsRow (B + 3) 148 2 v rs.length (flatR rs)) (hnil : rs = [] → v = .slice none 0 0) (b : ByteArray) (hs : b.size ≤ 38) :
    Calls Tryz.prog 121 #[.pointer (some ⟨B + 1, 0, none⟩), .int .i64 8, .string b, .slice (some ⟨B + 2, 0, none⟩) 9 9] w fun en w' => PartPost (stepO ⟨m, c, t, ec, sd, ok, sp, rs⟩ 8 b.data.toList) B w en w' := by
  have hlen : b.data.toList.length = b.size := toList_size b
  rcases Bool.eq_false_or_eq_true sp with hh | hh
  all_goals subst hh
  · have hst : stepO ⟨m, c, t, ec, sd, ok, true, rs⟩ 8 b.data.toList = none := by simp [stepO, followsB]
    rw [hst]
    obtain ⟨⟨c0, c1, c2, c3, c4, c5, c6, c7⟩, ⟨f0, f1, f2, f3, f4, f5, f6, f7⟩, hlP⟩ := hP.eight
    obtain ⟨⟨s0, s1, s2, s3, s4, s5, s6, s7, s8⟩, ⟨q0, q1, q2, q3, q4, q5, q6, q7, q8⟩, hlQ⟩ := hQ.nine
    go_enter Tryz.func121, Tryz.ntmps121
    go_wp2
    go_ret
    exact ⟨rfl, Below.refl _ _⟩
  · by_cases hl : b.size = 8
    · have hst : stepO ⟨m, c, t, ec, sd, ok, false, rs⟩ 8 b.data.toList = some ⟨m, c, numL (b.data.toList.take 4), numL (b.data.toList.drop 4), sd, ok, true, rs⟩ := by simp [stepO, followsB, saysB, takeO, hlen, hl]
      rw [hst]
      have h2' : (b.size : Int) = 8 := by omega
      have e1 : numS (b.extract 0 4) = numL (b.data.toList.take 4) := by
        unfold numS; rw [ext_list b 0 4 (by omega)]; simp
      have e2 : numS (b.extract 4 b.size) = numL (b.data.toList.drop 4) := by
        unfold numS; rw [ext_list b 4 b.size (by omega), List.take_of_length_le (by rw [List.length_drop, hlen]; omega)]
      have hr1 := fun W => num_any (b.extract 0 4) W (by rw [ByteArray.size_extract]; omega)
      have hr2 := fun W => num_any (b.extract 4 b.size) W (by rw [ByteArray.size_extract]; omega)
      rw [e1] at hr1
      rw [e2] at hr2
      rw [hl] at hr2
      generalize numL (b.data.toList.take 4) = X at *
      generalize numL (b.data.toList.drop 4) = Y at *
      have HH1 : Hid (∀ W, Calls Tryz.prog 62 #[.string (b.extract 0 4)] W fun e w' => e = .returned (.int .i64 X) ∧ w' = W) := hr1
      have HH2 : Hid (∀ W, Calls Tryz.prog 62 #[.string (b.extract 4 8)] W fun e w' => e = .returned (.int .i64 Y) ∧ w' = W) := hr2
      clear e1 e2 hr1 hr2 hst
      obtain ⟨⟨c0, c1, c2, c3, c4, c5, c6, c7⟩, ⟨f0, f1, f2, f3, f4, f5, f6, f7⟩, hlP⟩ := hP.eight
      obtain ⟨⟨s0, s1, s2, s3, s4, s5, s6, s7, s8⟩, ⟨q0, q1, q2, q3, q4, q5, q6, q7, q8⟩, hlQ⟩ := hQ.nine
      go_enter Tryz.func121, Tryz.ntmps121
      go_wp2_with fail
      refine (HH1.out _).mono ?_
      rintro e w' ⟨rfl, rfl⟩
      go_wp2_with fail
      refine (HH2.out _).mono ?_
      rintro e w' ⟨rfl, rfl⟩
      go_wp2
      go_ret
      exact ⟨v, rfl, (show At _ (B + 1) #[.int .i64 m, .int .i64 c, .int .i64 X, .int .i64 Y, .bool sd, .bool ok, .bool true, v] from ((((hP.keep (b := B + 2) (by omega) 8 (.bool true)).set 2 (.int .i64 X)).set 3 (.int .i64 Y)).set 6 (.bool true))), (show At _ (B + 2) #[.bool false, .bool false, .bool (m != 0), .bool sd, .bool ok, .bool (decide (0 < rs.length)), .bool false, .bool false, .bool true] from ((((hQ.set 8 (.bool true)).keep (b := B + 1) (by omega) 2 (.int .i64 X)).keep (b := B + 1) (by omega) 3 (.int .i64 Y)).keep (b := B + 1) (by omega) 6 (.bool true))), (own_setCell (own_setCell (own_setCell (own_setCell hown (B + 2) 8 _ (by omega)) (B + 1) 2 _ (by omega)) (B + 1) 3 _ (by omega)) (B + 1) 6 _ (by omega)), hnil, (((((Below.refl (B + 1) w).setCell (p := ⟨B + 2, 8, none⟩) (by show B + 1 ≤ B + _; omega) _).setCell (p := ⟨B + 1, 2, none⟩) (by show B + 1 ≤ B + _; omega) _).setCell (p := ⟨B + 1, 3, none⟩) (by show B + 1 ≤ B + _; omega) _).setCell (p := ⟨B + 1, 6, none⟩) (by show B + 1 ≤ B + _; omega) _)⟩
    · have hst : stepO ⟨m, c, t, ec, sd, ok, false, rs⟩ 8 b.data.toList = none := by simp [stepO, followsB, hlen, hl]
      rw [hst]
      have hl2 : ((b.size : Int) != 8) = true := by simp; omega
      obtain ⟨⟨c0, c1, c2, c3, c4, c5, c6, c7⟩, ⟨f0, f1, f2, f3, f4, f5, f6, f7⟩, hlP⟩ := hP.eight
      obtain ⟨⟨s0, s1, s2, s3, s4, s5, s6, s7, s8⟩, ⟨q0, q1, q2, q3, q4, q5, q6, q7, q8⟩, hlQ⟩ := hQ.nine
      go_enter Tryz.func121, Tryz.ntmps121
      go_wp2
      go_ret
      exact ⟨rfl, ((Below.refl (B + 1) w).setCell (p := ⟨B + 2, 8, none⟩) (by show B + 1 ≤ B + _; omega) _)⟩
end Go.Proofs.YtkpdmgoldngdaaaGreatDoor

namespace Go.Proofs.YtkpdmgoldngdaaaGreatDoor
open Go.RowKit
set_option maxRecDepth 100000
set_option linter.unusedVariables false
theorem bd35 (X Y : Int) : Tryz.prog.built 148 [(0, .int .i64 X), (1, .int .i64 Y)] = some #[.int .i64 X, .int .i64 Y] := by kernel_rfl
theorem bs35 (X Y : Int) (w : World) : (Instr.buildSlice 30 1 #[(0, .agg #[.int .i64 X, .int .i64 Y])]).run Tryz.prog w = .ok (.slice (some ⟨w.heap.size, 0, none⟩) 1 1) (w.alloc (.cells #[.int .i64 X, .int .i64 Y] 148)) := by
  obtain ⟨i0, hi, hz0, hz1, hz2⟩ := info_parts Tryz.info148
  refine run_buildSlice w 30 148 1 _ _ i0 _ Tryz.underlying30 hi hz0 (by rw [hz1]; decide) (by rw [hz1]; decide) ?_
  rw [hz1]; kernel_rfl
set_option maxRecDepth 100000 in
set_option maxHeartbeats 8000000 in
theorem rp_5 (m c t ec : Int) (sd ok sp : Bool) (v0 : Value) (rs : List (Int × Int)) (B : Nat) (w : World) (hP : At w (B + 1) #[.int .i64 m, .int .i64 c, .int .i64 t, .int .i64 ec, .bool sd, .bool ok, .bool sp, v0]) (hQ : At w (B + 2) #[.bool false, .bool false, .bool (m != 0), .bool sd, .bool ok, .bool (decide (0 < rs.length)), .bool false, .bool false, .bool sp]) (hown : w.ownsRow (B + 3) 148 2 v0 rs.length (flatR rs)) (hnil : rs = [] → v0 = .slice none 0 0) (b : ByteArray) (hs : b.size ≤ 38) (hB3 : B + 3 ≤ w.heap.size) :
    Calls Tryz.prog 121 #[.pointer (some ⟨B + 1, 0, none⟩), .int .i64 5, .string b, .slice (some ⟨B + 2, 0, none⟩) 9 9] w fun en w' => PartPost (stepO ⟨m, c, t, ec, sd, ok, sp, rs⟩ 5 b.data.toList) B w en w' := by
  have hlen : b.data.toList.length = b.size := toList_size b
  by_cases hr : 0 < rs.length
  · have hst : stepO ⟨m, c, t, ec, sd, ok, sp, rs⟩ 5 b.data.toList = none := by simp [stepO, followsB, show ¬ rs = [] from fun e => by rw [e] at hr; simp at hr]
    rw [hst]
    rw [decide_eq_true hr] at hQ
    obtain ⟨⟨c0, c1, c2, c3, c4, c5, c6, c7⟩, ⟨f0, f1, f2, f3, f4, f5, f6, f7⟩, hlP⟩ := hP.eight
    obtain ⟨⟨s0, s1, s2, s3, s4, s5, s6, s7, s8⟩, ⟨q0, q1, q2, q3, q4, q5, q6, q7, q8⟩, hlQ⟩ := hQ.nine
    go_enter Tryz.func121, Tryz.ntmps121
    go_wp2
    go_ret
    exact ⟨rfl, Below.refl _ _⟩
  have hr0 : rs = [] := List.eq_nil_of_length_eq_zero (by omega)
  subst hr0
  obtain rfl := hnil rfl
  obtain ⟨⟨c0, c1, c2, c3, c4, c5, c6, c7⟩, ⟨f0, f1, f2, f3, f4, f5, f6, f7⟩, hlP⟩ := hP.eight
  obtain ⟨⟨s0, s1, s2, s3, s4, s5, s6, s7, s8⟩, ⟨q0, q1, q2, q3, q4, q5, q6, q7, q8⟩, hlQ⟩ := hQ.nine
  by_cases h8 : b.size % 8 = 0
  case neg =>
    have hst : stepO ⟨m, c, t, ec, sd, ok, sp, []⟩ 5 b.data.toList = none := by simp [stepO, followsB, hlen, h8]
    rw [hst]
    have t1 : ((b.size : Int) % 8 != 0) = true := by simp; omega
    have hsz : (b.size : Int) ≤ 38 := by omega
    go_enter Tryz.func121, Tryz.ntmps121
    go_wp2
    go_ret
    exact ⟨rfl, (Below.refl (B + 1) w).setCell (p := ⟨B + 2, 5, none⟩) (by show B + 1 ≤ B + 2; omega) _⟩
  by_cases hz : b.size = 0
  · have hst : stepO ⟨m, c, t, ec, sd, ok, sp, []⟩ 5 b.data.toList = none := by simp [stepO, followsB, hlen, hz]
    rw [hst]
    have t0 : (b.size : Int) = 0 := by omega
    have t1 : ((b.size : Int) % 8 != 0) = false := by simp; omega
    have t2 : (b.size : Int) < 8 := by omega
    go_enter Tryz.func121, Tryz.ntmps121
    go_wp2
    go_ret
    exact ⟨rfl, (Below.refl (B + 1) w).setCell (p := ⟨B + 2, 5, none⟩) (by show B + 1 ≤ B + 2; omega) _⟩
  obtain ⟨i0, hi, hz0, hz1, hz2⟩ := info_parts Tryz.info148
  have HI : Hid (Tryz.prog.info? 148 = some i0 ∧ i0.zero = some (.agg #[.int .i64 0, .int .i64 0]) ∧ i0.size = 2 ∧ i0.bytes = 16) := ⟨hi, hz0, hz1, hz2⟩
  clear hi hz0 hz1 hz2
  have hst : stepO ⟨m, c, t, ec, sd, ok, sp, []⟩ 5 b.data.toList = some ⟨m, c, t, ec, sd, ok, sp, pairsL b.data.toList⟩ := by simp [stepO, followsB, saysB, takeO, hlen, hz, h8]
  rw [hst]
  obtain ⟨N, hN⟩ : ∃ N, N = b.size / 8 := ⟨_, rfl⟩
  have hN1 : 1 ≤ N := by omega
  have hN5 : N ≤ 4 := by omega
  have hbs : (b.size : Int) = (N : Int) * 8 := by omega
  have hpl := pairs_len b
  rw [← hN] at hpl
  have HPL : Hid ((pairsL b.data.toList).length = N) := hpl
  have HAT : Hid (∀ k, k < N → (pairsL b.data.toList)[k]? = some (numL ((b.data.toList.drop (k * 8)).take 4), numL ((b.data.toList.drop (k * 8 + 4)).take 4))) := fun k hk => pairs_at b k (by omega)
  have t1 : ((b.size : Int) % 8 != 0) = false := by simp; omega
  have t2 : ¬ (b.size : Int) < 8 := by omega
  have t3 : ¬ (32 : Int) < (b.size : Int) := by omega
  have hst5 : Below (B + 1) w (w.setCell ⟨B + 2, 5, none⟩ (.bool true)) := (Below.refl (B + 1) w).setCell (p := ⟨B + 2, 5, none⟩) (by show B + 1 ≤ B + 2; omega) _
  have HST : Hid (Below (B + 1) w (w.setCell ⟨B + 2, 5, none⟩ (.bool true)) ∧ At (w.setCell ⟨B + 2, 5, none⟩ (.bool true)) (B + 1) #[.int .i64 m, .int .i64 c, .int .i64 t, .int .i64 ec, .bool sd, .bool ok, .bool sp, (.slice none 0 0)] ∧ At (w.setCell ⟨B + 2, 5, none⟩ (.bool true)) (B + 2) #[.bool false, .bool false, .bool (m != 0), .bool sd, .bool ok, .bool true, .bool false, .bool false, .bool sp] ∧ B + 3 ≤ (w.setCell ⟨B + 2, 5, none⟩ (.bool true)).heap.size) := ⟨hst5, hP.keep (b := B + 2) (by omega) 5 _, (show At _ (B + 2) #[.bool false, .bool false, .bool (m != 0), .bool sd, .bool ok, .bool true, .bool false, .bool false, .bool sp] from hQ.set 5 (.bool true)), by rw [World.size_setCell]; exact hB3⟩
  have HOW : Hid (w.ownsRow (B + 3) 148 2 (.slice none 0 0) 0 []) := hown
  clear hst5 hst hlen hpl hN hown hnil hP hQ
  go_enter Tryz.func121, Tryz.ntmps121
  go_upto_region 23 with fail
  clear t1 t2 t3 c0 c1 c2 c3 c4 c5 c6 c7 f0 f1 f2 f3 f4 f5 f6 f7 s0 s1 s2 s3 s4 s5 s6 s7 s8 q0 q1 q2 q3 q4 q5 q6 q7 q8
  generalize w.setCell ⟨B + 2, 5, none⟩ (.bool true) = w0 at *
  go_cut [9] from 10 (fun s W => s = .int .i64 0 ∧ W = w0)
  case first =>
    clear HST HAT HPL HI HOW
    go_wp2
    go_meet
    case rel => exact ⟨rfl, rfl⟩
  case rest =>
  obtain ⟨rfl, rfl⟩ := hcut
  go_wp2_with fail
  go_loopw [9] (fun s W => ∃ (k : Nat) (v : Value), k ≤ N ∧ s = .int .i64 ((k * 8 : Nat) : Int) ∧ Below (B + 1) w W ∧ B + 3 ≤ W.heap.size ∧ At W (B + 1) #[.int .i64 m, .int .i64 c, .int .i64 t, .int .i64 ec, .bool sd, .bool ok, .bool sp, v] ∧ At W (B + 2) #[.bool false, .bool false, .bool (m != 0), .bool sd, .bool ok, .bool true, .bool false, .bool false, .bool sp] ∧ W.ownsRow (B + 3) 148 2 v k (flatR ((pairsL b.data.toList).take k))) (fun s _ => N * 8 - (intOf s).toNat)
  case atStart => exact ⟨0, .slice none 0 0, Nat.zero_le _, by simp, HST.out.1, HST.out.2.2.2, HST.out.2.1, HST.out.2.2.1, World.ownsRow_nil _ _ _ _⟩
  case round =>
    clear HOW HST hlP hlQ
    obtain ⟨k, v, hk, rfl, hbl, hsz, hA, hR, hown⟩ := hrel
    by_cases hlt : k < N
    · obtain ⟨p, hp⟩ : ∃ p, p = k * 8 := ⟨_, rfl⟩
      rw [← hp]
      have hpk := HAT.out k hlt
      rw [← hp] at hpk
      have HTK := takeL_snoc _ k _ hpk
      have hp4 : p + 8 ≤ b.size := by omega
      have eX : numS (b.extract p (p + 4)) = numL ((b.data.toList.drop p).take 4) := by unfold numS; rw [ext_list b p (p + 4) (by omega)]; congr 2; omega
      have eY : numS (b.extract (p + 4) (p + 8)) = numL ((b.data.toList.drop (p + 4)).take 4) := by unfold numS; rw [ext_list b (p + 4) (p + 8) (by omega)]; congr 2; omega
      have HGX0 := fun W => num_any (b.extract p (p + 4)) W (by rw [ByteArray.size_extract]; omega)
      have HGY0 := fun W => num_any (b.extract (p + 4) (p + 8)) W (by rw [ByteArray.size_extract]; omega)
      rw [eX] at HGX0
      rw [eY] at HGY0
      have hs1 := orun_sl b (p : Int) ((p : Int) + 4) (b.extract p (p + 4)) (by congr 1) (by omega) (by omega) (by omega)
      have hs2 := orun_sl b ((p : Int) + 4) ((p : Int) + 8) (b.extract (p + 4) (p + 8)) (by congr 1) (by omega) (by omega) (by omega)
      generalize numL ((b.data.toList.drop p).take 4) = X at *
      generalize numL ((b.data.toList.drop (p + 4)).take 4) = Y at *
      generalize b.extract p (p + 4) = b1 at *
      generalize b.extract (p + 4) (p + 8) = b2 at *
      have HGX : Hid (∀ W, Calls Tryz.prog 62 #[.string b1] W fun e w' => e = .returned (.int .i64 X) ∧ w' = W) := HGX0
      have HGY : Hid (∀ W, Calls Tryz.prog 62 #[.string b2] W fun e w' => e = .returned (.int .i64 Y) ∧ w' = W) := HGY0
      have HS1 : Hid (∀ W, (Instr.slice 9 (.string b) (some (.int .i64 (p : Int))) (some (.int .i64 ((p : Int) + 4))) none).run Tryz.prog W = .ok (.string b1) W) := hs1
      have HS2 : Hid (∀ W, (Instr.slice 9 (.string b) (some (.int .i64 ((p : Int) + 4))) (some (.int .i64 ((p : Int) + 8))) none).run Tryz.prog W = .ok (.string b2) W) := hs2
      have HTKH : Hid ((pairsL b.data.toList).take (k + 1) = (pairsL b.data.toList).take k ++ [(X, Y)]) := HTK
      have HP : Hid (p = k * 8) := hp
      have g1 : (p : Int) < (b.size : Int) := by omega
      have g2 : (p : Int) ≤ 40 := by omega
      clear HGX0 HGY0 eX eY hpk HTK hp hs1 hs2
      have HA : Hid (At wr (B + 1) #[.int .i64 m, .int .i64 c, .int .i64 t, .int .i64 ec, .bool sd, .bool ok, .bool sp, v]) := hA
      have HR : Hid (At wr (B + 2) #[.bool false, .bool false, .bool (m != 0), .bool sd, .bool ok, .bool true, .bool false, .bool false, .bool sp]) := hR
      have HO : Hid (wr.ownsRow (B + 3) 148 2 v k (flatR ((pairsL b.data.toList).take k))) := hown
      clear hA hR hown
      go_wp2
      refine wp_region_any (by kernel_rfl) ?_
      refine region_facts_two (fun W => Below wr.heap.size wr W) (GE (fun i => match i with | 0 => .pointer (some ⟨B + 1, 0, none⟩) | 1 => .pointer (some ⟨B + 1, 0, none⟩) | 2 => .pointer (some ⟨B + 1, 0, none⟩) | 3 => .pointer (some ⟨B + 1, 7, none⟩) | 4 => v | 5 => .string b | 6 => .int .i64 (p : Int) | 7 => .int .i64 (p : Int) | 8 => .int .i64 ((p : Int) + 4) | 9 => .string b1 | 10 => .int .i64 X | 11 => .string b | 12 => .int .i64 (p : Int) | 13 => .int .i64 ((p : Int) + 4) | 14 => .int .i64 (p : Int) | 15 => .int .i64 ((p : Int) + 8) | 16 => .string b2 | 17 => .int .i64 Y | 18 => .agg #[.int .i64 X, .int .i64 Y] | _ => undef) (fun i => match i with | 19 => some (fun v W => ∃ g, v = .slice (some ⟨g, 0, none⟩) 1 1 ∧ g < W.heap.size ∧ W.cell? ⟨g, 0, none⟩ = some (.int .i64 X) ∧ W.cell? ⟨g, 1, none⟩ = some (.int .i64 Y)) | _ => none)) (n := 133) 20 0 8 (by decide) (by decide) (by kernel_rfl) (by kernel_rfl) rfl (by kernel_rfl) (GE_later _ _ (by
        intro i F hF v w w' h hb
        match i, hF with
        | 19, hF =>
          obtain rfl := Option.some.inj hF
          obtain ⟨g, hg, h1, h2, h3⟩ := h
          exact ⟨g, hg, Nat.lt_of_lt_of_le h1 hb.size, later hb h2, later hb h3⟩)) ?_ ?_ ((Below.refl _ _).drew) (Nat.le_refl _)
      · clear HI HTKH HPL HAT HO HR HP
        clear hbl hsz hk hlt
        refine ⟨?_, ?_, ?_, ?_, ?_, ?_, ?_, ?_, ?_, ?_, ?_, ?_, ?_, ?_, ?_, ?_, ?_, ?_, ?_, ?_, trivial⟩
        · intro ac w1 hS hT hB hD K hK
          rw [if_pos (by rfl)]
          have d0 : ac.tmps.getD 0 undef = .pointer (some ⟨B + 1, 0, none⟩) := hB 0 (by kernel_rfl)
          clear hB hD hT
          go_simp
          exact hK _ _ hS (Below.refl _ _) rfl
        · intro ac w1 hS hT hB hD K hK
          rw [if_pos (by rfl)]
          have d0 : ac.tmps.getD 0 undef = .pointer (some ⟨B + 1, 0, none⟩) := hB 0 (by kernel_rfl)
          clear hB hD hT
          go_simp
          exact hK _ _ hS (Below.refl _ _) rfl
        · intro ac w1 hS hT hB hD K hK
          rw [if_pos (by rfl)]
          have d91 : ac.tmps.getD 91 undef = .pointer (some ⟨B + 1, 0, none⟩) := hD ⟨1, .data⟩ (by simp) rfl _ 91 rfl rfl
          clear hB hD hT
          go_simp
          exact hK _ _ hS (Below.refl _ _) rfl
        · intro ac w1 hS hT hB hD K hK
          rw [if_pos (by rfl)]
          have d92 : ac.tmps.getD 92 undef = .pointer (some ⟨B + 1, 0, none⟩) := hD ⟨2, .data⟩ (by simp) rfl _ 92 rfl rfl
          clear hB hD hT
          go_simp
          exact hK _ _ hS (Below.refl _ _) rfl
        · intro ac w1 hS hT hB hD K hK
          rw [if_pos (by rfl)]
          have d93 : ac.tmps.getD 93 undef = .pointer (some ⟨B + 1, 7, none⟩) := hD ⟨3, .data⟩ (by simp) rfl _ 93 rfl rfl
          clear hB hD hT
          have hc := (HA.out.later hS).eight.1
          go_simp
          exact hK _ _ hS (Below.refl _ _) rfl
        · intro ac w1 hS hT hB hD K hK
          rw [if_pos (by rfl)]
          have d2 : ac.tmps.getD 2 undef = .string b := hB 2 (by kernel_rfl)
          clear hB hD hT
          go_simp
          exact hK _ _ hS (Below.refl _ _) rfl
        · intro ac w1 hS hT hB hD K hK
          rw [if_pos (by rfl)]
          have d9 : ac.tmps.getD 9 undef = .int .i64 (p : Int) := hB 9 (by kernel_rfl)
          clear hB hD hT
          go_simp
          exact hK _ _ hS (Below.refl _ _) rfl
        · intro ac w1 hS hT hB hD K hK
          rw [if_pos (by rfl)]
          have d9 : ac.tmps.getD 9 undef = .int .i64 (p : Int) := hB 9 (by kernel_rfl)
          clear hB hD hT
          go_simp
          exact hK _ _ hS (Below.refl _ _) rfl
        · intro ac w1 hS hT hB hD K hK
          rw [if_pos (by rfl)]
          have d97 : ac.tmps.getD 97 undef = .int .i64 (p : Int) := hD ⟨7, .data⟩ (by simp) rfl _ 97 rfl rfl
          clear hB hD hT
          have hw1 : IntKind.i64.wrap ((p : Int) + 4) = (p : Int) + 4 := by rw [IntKind.wrap_i64]; omega
          go_simp
          exact hK _ _ hS (Below.refl _ _) rfl
        · intro ac w1 hS hT hB hD K hK
          rw [if_pos (by rfl)]
          have d95 : ac.tmps.getD 95 undef = .string b := hD ⟨5, .data⟩ (by simp) rfl _ 95 rfl rfl
          have d96 : ac.tmps.getD 96 undef = .int .i64 (p : Int) := hD ⟨6, .data⟩ (by simp) rfl _ 96 rfl rfl
          have d98 : ac.tmps.getD 98 undef = .int .i64 ((p : Int) + 4) := hD ⟨8, .data⟩ (by simp) rfl _ 98 rfl rfl
          clear hB hD hT
          have hsl := HS1.out
          go_simp
          exact hK _ _ hS (Below.refl _ _) rfl
        · intro ac w1 hS hT hB hD K hK
          rw [if_pos (by rfl)]
          have d99 : ac.tmps.getD 99 undef = .string b1 := hD ⟨9, .data⟩ (by simp) rfl _ 99 rfl rfl
          clear hB hD hT
          go_simp
          refine (HGX.out _).mono ?_
          rintro e w' ⟨rfl, rfl⟩
          exact hK _ _ hS (Below.refl _ _) rfl
        · intro ac w1 hS hT hB hD K hK
          rw [if_pos (by rfl)]
          have d2 : ac.tmps.getD 2 undef = .string b := hB 2 (by kernel_rfl)
          clear hB hD hT
          go_simp
          exact hK _ _ hS (Below.refl _ _) rfl
        · intro ac w1 hS hT hB hD K hK
          rw [if_pos (by rfl)]
          have d9 : ac.tmps.getD 9 undef = .int .i64 (p : Int) := hB 9 (by kernel_rfl)
          clear hB hD hT
          go_simp
          exact hK _ _ hS (Below.refl _ _) rfl
        · intro ac w1 hS hT hB hD K hK
          rw [if_pos (by rfl)]
          have d102 : ac.tmps.getD 102 undef = .int .i64 (p : Int) := hD ⟨12, .data⟩ (by simp) rfl _ 102 rfl rfl
          clear hB hD hT
          have hw1 : IntKind.i64.wrap ((p : Int) + 4) = (p : Int) + 4 := by rw [IntKind.wrap_i64]; omega
          go_simp
          exact hK _ _ hS (Below.refl _ _) rfl
        · intro ac w1 hS hT hB hD K hK
          rw [if_pos (by rfl)]
          have d9 : ac.tmps.getD 9 undef = .int .i64 (p : Int) := hB 9 (by kernel_rfl)
          clear hB hD hT
          go_simp
          exact hK _ _ hS (Below.refl _ _) rfl
        · intro ac w1 hS hT hB hD K hK
          rw [if_pos (by rfl)]
          have d104 : ac.tmps.getD 104 undef = .int .i64 (p : Int) := hD ⟨14, .data⟩ (by simp) rfl _ 104 rfl rfl
          clear hB hD hT
          have hw1 : IntKind.i64.wrap ((p : Int) + 8) = (p : Int) + 8 := by rw [IntKind.wrap_i64]; omega
          go_simp
          exact hK _ _ hS (Below.refl _ _) rfl
        · intro ac w1 hS hT hB hD K hK
          rw [if_pos (by rfl)]
          have d101 : ac.tmps.getD 101 undef = .string b := hD ⟨11, .data⟩ (by simp) rfl _ 101 rfl rfl
          have d103 : ac.tmps.getD 103 undef = .int .i64 ((p : Int) + 4) := hD ⟨13, .data⟩ (by simp) rfl _ 103 rfl rfl
          have d105 : ac.tmps.getD 105 undef = .int .i64 ((p : Int) + 8) := hD ⟨15, .data⟩ (by simp) rfl _ 105 rfl rfl
          clear hB hD hT
          have hsl := HS2.out
          go_simp
          exact hK _ _ hS (Below.refl _ _) rfl
        · intro ac w1 hS hT hB hD K hK
          rw [if_pos (by rfl)]
          have d106 : ac.tmps.getD 106 undef = .string b2 := hD ⟨16, .data⟩ (by simp) rfl _ 106 rfl rfl
          clear hB hD hT
          go_simp
          refine (HGY.out _).mono ?_
          rintro e w' ⟨rfl, rfl⟩
          exact hK _ _ hS (Below.refl _ _) rfl
        · intro ac w1 hS hT hB hD K hK
          rw [if_pos (by rfl)]
          have d100 : ac.tmps.getD 100 undef = .int .i64 X := hD ⟨10, .data⟩ (by simp) rfl _ 100 rfl rfl
          have d107 : ac.tmps.getD 107 undef = .int .i64 Y := hD ⟨17, .data⟩ (by simp) rfl _ 107 rfl rfl
          clear hB hD hT
          exact wp_build2 148 (.tmp 100) (.tmp 107) _ _ _ rfl d100 d107 (bd35 X Y) (hK _ _ hS (Below.refl _ _) rfl)
        · intro ac w1 hS hT hB hD K hK
          rw [if_pos (by rfl)]
          have d108 : ac.tmps.getD 108 undef = .agg #[.int .i64 X, .int .i64 Y] := hD ⟨18, .data⟩ (by simp) rfl _ 108 rfl rfl
          clear hB hD hT
          exact wp_bslice1 30 148 (.tmp 108) _ _ rfl d108 (bs35 X Y _) (hK _ _ (bt hS (bel1 _ _)) (bel1 _ _) ⟨_, rfl, by simp, ((At.box w1 #[.int .i64 X, .int .i64 Y] 148).2 0 _ rfl).1, ((At.box w1 #[.int .i64 X, .int .i64 Y] 148).2 1 _ rfl).1⟩)
      · clear HGX HGY HS1 HS2
        intro ac w1 zl hS hT hdf hB hF
        have hfr : ac.tmps = #[.pointer (some ⟨B + 1, 0, none⟩), .int .i64 5, .string b, .slice (some ⟨B + 2, 0, none⟩) 9 9, undef, undef, undef, undef, .bool false, .int .i64 (p : Int), u10, u11, u12, u13, u14, u15, u16, u17, u18, u19, u20, u21, u22, u23, u24, u25, u26, u27, u28, u29, u30, u31, u32, u33, u34, u35, u36, u37, u38, u39, u40, u41, u42, u43, u44, u45, u46, u47, u48, u49, u50, u51, u52, u53, u54, u55, u56, u57, u58, u59, u60, u61, u62, u63, u64, u65, u66, u67, u68, u69, u70, u71, u72, u73, u74, u75, u76, u77, u78, u79, u80, u81, u82, u83, .int .i64 (p : Int), .string b, .int .i64 ((N : Int) * 8), .bool (decide ((p : Int) < (N : Int) * 8)), u88, u89, (ac.tmps.getD 90 undef), (ac.tmps.getD 91 undef), (ac.tmps.getD 92 undef), (ac.tmps.getD 93 undef), (ac.tmps.getD 94 undef), (ac.tmps.getD 95 undef), (ac.tmps.getD 96 undef), (ac.tmps.getD 97 undef), (ac.tmps.getD 98 undef), (ac.tmps.getD 99 undef), (ac.tmps.getD 100 undef), (ac.tmps.getD 101 undef), (ac.tmps.getD 102 undef), (ac.tmps.getD 103 undef), (ac.tmps.getD 104 undef), (ac.tmps.getD 105 undef), (ac.tmps.getD 106 undef), (ac.tmps.getD 107 undef), (ac.tmps.getD 108 undef), (ac.tmps.getD 109 undef), (ac.tmps.getD 110 undef), (ac.tmps.getD 111 undef), (ac.tmps.getD 112 undef), u113, u114, u115, u116, u117, u118, u119, u120, u121, u122, u123, u124, u125, u126, u127, u128, u129, u130, u131, u132] := (frame_eq hT rfl hB).trans (by kernel_rfl)
        obtain ⟨T, df⟩ := ac
        have s94 : T.getD 94 undef = v := hF 4 _ 94 (by decide) (fun h => by cases h) rfl rfl
        obtain ⟨g9, s109, hg9, e9, e9'⟩ : ∃ g, T.getD 109 undef = .slice (some ⟨g, 0, none⟩) 1 1 ∧ g < w1.heap.size ∧ w1.cell? ⟨g, 0, none⟩ = some (.int .i64 X) ∧ w1.cell? ⟨g, 1, none⟩ = some (.int .i64 Y) := hF 19 _ 109 (by decide) (fun h => by cases h) rfl rfl
        have s90 : zl = true → T.getD 90 undef = .pointer (some ⟨B + 1, 0, none⟩) := fun h => hF 0 _ 90 (by decide) (fun _ => h) rfl rfl
        have sdf : df = [] := hdf
        simp only at hfr
        clear hB hF hT hdf
        generalize T.getD 90 undef = y90 at *
        generalize T.getD 91 undef = y91 at *
        generalize T.getD 92 undef = y92 at *
        generalize T.getD 93 undef = y93 at *
        generalize T.getD 94 undef = y94 at *
        generalize T.getD 95 undef = y95 at *
        generalize T.getD 96 undef = y96 at *
        generalize T.getD 97 undef = y97 at *
        generalize T.getD 98 undef = y98 at *
        generalize T.getD 99 undef = y99 at *
        generalize T.getD 100 undef = y100 at *
        generalize T.getD 101 undef = y101 at *
        generalize T.getD 102 undef = y102 at *
        generalize T.getD 103 undef = y103 at *
        generalize T.getD 104 undef = y104 at *
        generalize T.getD 105 undef = y105 at *
        generalize T.getD 106 undef = y106 at *
        generalize T.getD 107 undef = y107 at *
        generalize T.getD 108 undef = y108 at *
        generalize T.getD 109 undef = y109 at *
        generalize T.getD 110 undef = y110 at *
        generalize T.getD 111 undef = y111 at *
        generalize T.getD 112 undef = y112 at *
        subst hfr s94 s109 sdf
        refine wpOp_step (by rfl) fun Kc hKc => ?_
        rw [if_pos (by rfl)]
        have hown1 := own_later HO.out hS
        have hsz1 := Nat.le_trans hsz hS.size
        refine wp_append_own w1 (.tmp 94) (.tmp 109) 30 (by rfl) (B + 3) 148 i0 (.agg #[.int .i64 0, .int .i64 0]) 2 16 Tryz.underlying30 HI.out.1 HI.out.2.1 HI.out.2.2.1 HI.out.2.2.2 rfl (by decide) y94 k (flatR ((pairsL b.data.toList).take k)) (by rfl) hown1 ⟨g9, 0, none⟩ 1 1 [.int .i64 X, .int .i64 Y] (by rfl) rfl (two_news e9 e9') (by simp [Value.oneCell']) (by unfold maxLen; omega) (by omega) hsz1 ?_
        intro v9 w9 hown9 hgrow9 hnil9
        have hbg : Below (B + 3) w1 w9 := (Below.refl _ _).grown hgrow9 hsz1 (fun q e => (hown1.lt q e).1)
        have hA9 := (HA.out.later hS).below hbg (by omega)
        have hR9 := (HR.out.later hS).below hbg (by omega)
        have hb9 : Below (B + 1) w w9 := (hbl.trans (hS.mono (by omega))).trans (hbg.mono (by omega))
        have hsz9 := Nat.le_trans hsz1 hbg.size
        replace hown9 : w9.ownsRow (B + 3) 148 2 v9 (k + 1) (flatR ((pairsL b.data.toList).take (k + 1))) := by rw [HTKH.out, flatR_snoc]; exact hown9
        rcases id hown9.2 with ⟨-, hq⟩ | ⟨g, cap9, cur, rfl, hg, -⟩
        · omega
        clear hnil9 hgrow9 hbg hown1 hsz1 e9 e9' hg9 hS
        obtain ⟨⟨c0, c1, c2, c3, c4, c5, c6, c7⟩, ⟨f0, f1, f2, f3, f4, f5, f6, f7⟩, -⟩ := hA9.eight
        apply hKc
        clear hKc Kc
        cases zl
        · clear s90
          refine any_one (i := 0) (by kernel_rfl) (by rfl) ?_
          intro Kc hKc
          rw [if_pos (by rfl)]
          go_simp
          apply hKc
          clear hKc Kc
          refine any_one (i := 21) (by kernel_rfl) (by rfl) ?_
          intro Kc hKc
          rw [if_pos (by rfl)]
          go_simp
          apply hKc
          clear hKc Kc
          refine any_one (i := 22) (by kernel_rfl) (by rfl) ?_
          intro Kc hKc
          rw [if_pos (by rfl)]
          go_simp
          apply hKc
          clear hKc Kc
          refine any_one (i := 23) (by kernel_rfl) (by rfl) ?_
          intro Kc hKc
          rw [if_pos (by rfl)]
          go_simp
          apply hKc
          clear hKc Kc
          refine any_done (by kernel_rfl) ?_
          go_wp2
          go_roundw
          case rel => exact ⟨k + 1, _, by omega, by rw [Nat.add_mul, ← HP.out]; go_num, hb9.setCell (by show B + 1 ≤ B + 1; omega) _, by rw [World.size_setCell]; exact hsz9, hA9.set 7 _, hR9.keep (by omega) 7 _, own_setCell hown9 (B + 1) 7 _ (by omega)⟩
          case measure => simp [intOf]; omega
        · have s90' := s90 rfl
          clear s90
          subst s90'
          refine any_one (i := 21) (by kernel_rfl) (by rfl) ?_
          intro Kc hKc
          rw [if_pos (by rfl)]
          go_simp
          apply hKc
          clear hKc Kc
          refine any_one (i := 22) (by kernel_rfl) (by rfl) ?_
          intro Kc hKc
          rw [if_pos (by rfl)]
          go_simp
          apply hKc
          clear hKc Kc
          refine any_one (i := 23) (by kernel_rfl) (by rfl) ?_
          intro Kc hKc
          rw [if_pos (by rfl)]
          go_simp
          apply hKc
          clear hKc Kc
          refine any_done (by kernel_rfl) ?_
          go_wp2
          go_roundw
          case rel => exact ⟨k + 1, _, by omega, by rw [Nat.add_mul, ← HP.out]; go_num, hb9.setCell (by show B + 1 ≤ B + 1; omega) _, by rw [World.size_setCell]; exact hsz9, hA9.set 7 _, hR9.keep (by omega) 7 _, own_setCell hown9 (B + 1) 7 _ (by omega)⟩
          case measure => simp [intOf]; omega
    · have hkN : k = N := by omega
      subst hkN
      have hg : ¬ ((k * 8 : Nat) : Int) < (b.size : Int) := by omega
      rw [List.take_of_length_le (by rw [HPL.out]; exact Nat.le_refl _)] at hown
      have HE : Hid (wr.ownsRow (B + 3) 148 2 v (pairsL b.data.toList).length (flatR (pairsL b.data.toList)) ∧ At wr (B + 1) #[.int .i64 m, .int .i64 c, .int .i64 t, .int .i64 ec, .bool sd, .bool ok, .bool sp, v] ∧ At wr (B + 2) #[.bool false, .bool false, .bool (m != 0), .bool sd, .bool ok, .bool (decide (0 < (pairsL b.data.toList).length)), .bool false, .bool false, .bool sp] ∧ (pairsL b.data.toList = [] → v = .slice none 0 0)) := by
        refine ⟨by rw [HPL.out]; exact hown, hA, ?_, fun h => ?_⟩
        · rw [HPL.out, decide_eq_true (by omega)]; exact hR
        · have := HPL.out; rw [h] at this; simp at this; omega
      clear hown hA hR
      go_wp2
      go_ret
      exact ⟨v, rfl, HE.out.2.1, HE.out.2.2.1, HE.out.1, HE.out.2.2.2, hbl⟩
end Go.Proofs.YtkpdmgoldngdaaaGreatDoor

namespace Go.Proofs.YtkpdmgoldngdaaaGreatDoor
open Go.RowKit
set_option maxRecDepth 100000

theorem rt1 (n : Int) (w : World) : Calls Tryz.prog 120 #[.int .i64 n, .int .i64 1] w fun e w' => e = .returned (.string (txt n 1)) ∧ Below w.heap.size w w' := rtext_any n 1 w (by decide) (by decide)
theorem rt2 (n : Int) (w : World) : Calls Tryz.prog 120 #[.int .i64 n, .int .i64 2] w fun e w' => e = .returned (.string (txt n 2)) ∧ Below w.heap.size w w' := rtext_any n 2 w (by decide) (by decide)
theorem rt4 (n : Int) (w : World) : Calls Tryz.prog 120 #[.int .i64 n, .int .i64 4] w fun e w' => e = .returned (.string (txt n 4)) ∧ Below w.heap.size w w' := rtext_any n 4 w (by decide) (by decide)
theorem keepU {w W x : World} {p q r : Addr} {t u v : Value} (hb : Below W.heap.size W x) (h : Below w.heap.size w W ∧ W.cell? p = some t ∧ W.cell? q = some u ∧ W.cell? r = some v) : Below w.heap.size w x ∧ x.cell? p = some t ∧ x.cell? q = some u ∧ x.cell? r = some v :=
  ⟨bt h.1 hb, later hb h.2.1, later hb h.2.2.1, later hb h.2.2.2⟩
def bareK (m c t ec : Int) (sd ok sp : Bool) (rs : List (Int × Int)) (k : Nat) : ByteArray := bareS m c t ec sd ok sp rs 4 ++ (if 0 < rs.length then (⟨#[5]⟩ ++ txt (2 + 8 * rs.length) 1) else ⟨#[]⟩) ++ rgS (rs.take k)
theorem bareK_zero (m c t ec : Int) (sd ok sp : Bool) (rs : List (Int × Int)) : bareK m c t ec sd ok sp rs 0 = bareS m c t ec sd ok sp rs 4 ++ (if 0 < rs.length then (⟨#[5]⟩ ++ txt (2 + 8 * rs.length) 1) else ⟨#[]⟩) := by
  apply ba_toList
  simp [bareK, rgS, rgL]
theorem bareK_step (m c t ec : Int) (sd ok sp : Bool) (rs : List (Int × Int)) (k : Nat) (r : Int × Int) (h : rs[k]? = some r) : bareK m c t ec sd ok sp rs (k + 1) = bareK m c t ec sd ok sp rs k ++ (txt r.1 4 ++ txt r.2 4) := by
  unfold bareK
  rw [rgS_step rs k r h]
  apply ba_toList
  simp
theorem bareK_all (m c t ec : Int) (sd ok sp : Bool) (rs : List (Int × Int)) : bareK m c t ec sd ok sp rs rs.length = bareS m c t ec sd ok sp rs 5 := by
  have h5 := bareS_step m c t ec sd ok sp rs 4
  rw [h5]
  unfold bareK
  rw [List.take_length]
  apply ba_toList
  simp only [app_data, List.append_assoc]
  congr 1
  show _ = partL m c t ec sd ok sp rs 4
  unfold partL
  by_cases h : 0 < rs.length
  · simp only [if_pos h, app_data, txt, rgS, Int.mul_comm 8]
    rfl
  · rw [if_neg h, if_neg h]
    have : rs = [] := List.eq_nil_of_length_eq_zero (by omega)
    subst this
    rfl
theorem bareK_le (m c t ec : Int) (sd ok sp : Bool) (rs : List (Int × Int)) (k : Nat) (hn : rs.length ≤ 4) : (bareK m c t ec sd ok sp rs k).size ≤ 90 := by
  unfold bareK
  rw [ByteArray.size_append, ByteArray.size_append, rgS_size]
  have h1 := bareS_le m c t ec sd ok sp rs 4 (by decide)
  have h2 := lenK_le m sd ok sp rs.length 5
  have h3 : (if 0 < rs.length then ((⟨#[5]⟩ : ByteArray) ++ txt (2 + 8 * rs.length) 1) else ⟨#[]⟩).size ≤ 2 := by
    split
    · rw [ByteArray.size_append, txt_size]; exact Nat.le_refl _
    · exact Nat.zero_le _
  have h4 : (rs.take k).length ≤ 4 := by rw [List.length_take]; omega
  omega
theorem bareS_b (m c t ec : Int) (sd ok sp : Bool) (rs : List (Int × Int)) (k : Nat) (hk : k ≤ 5) (hn : rs.length ≤ 4) : (bareS m c t ec sd ok sp rs k).size ≤ 60 := by
  have h1 := bareS_le m c t ec sd ok sp rs k hk
  have h2 := lenK_le m sd ok sp rs.length 5
  omega
set_option maxRecDepth 100000 in
set_option maxHeartbeats 4000000 in
theorem rbare_any (m c t ec : Int) (sd ok sp : Bool) (v : Value) (rs : List (Int × Int)) (w : World) (hv : Rgs w v rs) (hn : rs.length ≤ 4) :
    Calls Tryz.prog 164 #[.agg #[.int .i64 m, .int .i64 c, .int .i64 t, .int .i64 ec, .bool sd, .bool ok, .bool sp, v]] w fun e w' => e = .returned (.string (bareS m c t ec sd ok sp rs 5)) ∧ Below w.heap.size w w' := by
  obtain ⟨x, cap, hvx, -⟩ := id hv
  subst hvx
  have HN4 : Hid (rs.length ≤ 4) := hn
  have hA := At.box w #[.int .i64 m, .int .i64 c, .int .i64 t, .int .i64 ec, .bool sd, .bool ok, .bool sp, (.slice x rs.length cap)] 32
  have hl := bel1 w (.cells #[.int .i64 m, .int .i64 c, .int .i64 t, .int .i64 ec, .bool sd, .bool ok, .bool sp, (.slice x rs.length cap)] 32)
  have hv0 := hv.later hl
  obtain ⟨⟨c0, c1, c2, c3, c4, c5, c6, c7⟩, -, -⟩ := hA.eight
  go_enter Tryz.func164, Tryz.ntmps164
  go_upto_if 7 with fail
  generalize w.alloc (.cells #[.int .i64 m, .int .i64 c, .int .i64 t, .int .i64 ec, .bool sd, .bool ok, .bool sp, (.slice x rs.length cap)] 32) = w0 at *
  have HA : Hid (At w0 w.heap.size #[.int .i64 m, .int .i64 c, .int .i64 t, .int .i64 ec, .bool sd, .bool ok, .bool sp, (.slice x rs.length cap)]) := hA
  have HL : Hid (Below w.heap.size w w0) := hl
  have HV : Hid (Rgs w0 (.slice x rs.length cap) rs) := hv0
  have hbl : Below w0.heap.size w0 w0 := Below.refl _ _
  have e0 : (⟨#[]⟩ : ByteArray) = bareS m c t ec sd ok sp rs 0 := rfl
  rw [e0]
  clear hA hl hv0 hv e0
  go_upto_if 7 with fail
  go_cut [3] from 5 (fun s W => s = .string (bareS m c t ec sd ok sp rs 1) ∧ Below w0.heap.size w0 W)
  case first =>
    rcases Bool.eq_false_or_eq_true (m != 0) with hh | hh
    all_goals rw [hh]
    · have HT : Hid (bareS m c t ec sd ok sp rs 1 = bareS m c t ec sd ok sp rs 0 ++ (⟨#[2, 4]⟩ ++ txt m 2)) := bareS_yes _ _ _ _ _ _ _ _ 0 _ (by simp [partL, show ¬ m = 0 by simpa using hh, txt])
      have hz := bareS_b m c t ec sd ok sp rs 0 (by decide) HN4.out
      generalize bareS m c t ec sd ok sp rs 0 = S at *
      have q1 : ∀ W, (Op.stringOp .add ⟨#[2, 4]⟩ (txt m 2)).run Tryz.prog W = .ok (.string (⟨#[2, 4]⟩ ++ (txt m 2))) W := fun W => run_string_add_sum W _ _ (by have e1 : (⟨#[2, 4]⟩ : ByteArray).size = 2 := rfl; have e2 : (⟨#[3, 3]⟩ : ByteArray).size = 2 := rfl; have e3 : (⟨#[4, 2]⟩ : ByteArray).size = 2 := rfl; have e4 : (⟨#[8, 10]⟩ : ByteArray).size = 2 := rfl; have e5 : (⟨#[5]⟩ : ByteArray).size = 1 := rfl; (repeat rw [ByteArray.size_append]); (repeat rw [txt_size]); omega)
      have q2 : ∀ W, (Op.stringOp .add S (⟨#[2, 4]⟩ ++ txt m 2)).run Tryz.prog W = .ok (.string (S ++ (⟨#[2, 4]⟩ ++ txt m 2))) W := fun W => run_string_add_sum W _ _ (by have e1 : (⟨#[2, 4]⟩ : ByteArray).size = 2 := rfl; have e2 : (⟨#[3, 3]⟩ : ByteArray).size = 2 := rfl; have e3 : (⟨#[4, 2]⟩ : ByteArray).size = 2 := rfl; have e4 : (⟨#[8, 10]⟩ : ByteArray).size = 2 := rfl; have e5 : (⟨#[5]⟩ : ByteArray).size = 1 := rfl; (repeat rw [ByteArray.size_append]); (repeat rw [txt_size]); omega)
      go_wp2_with fail
      refine (rt2 _ _).mono ?_
      rintro e w1 ⟨rfl, hb⟩
      replace hbl := bt hbl hb
      clear c0 c1 c2 c3 c4 c5 c6 c7 hb
      obtain ⟨⟨c0, c1, c2, c3, c4, c5, c6, c7⟩, -, -⟩ := (HA.out.later hbl).eight
      go_wp2
      go_meet
      case rel => exact ⟨by rw [HT.out], hbl⟩
    · have HT : Hid (bareS m c t ec sd ok sp rs 1 = bareS m c t ec sd ok sp rs 0) := bareS_no _ _ _ _ _ _ _ _ 0 (by simp [partL, show m = 0 by simpa using hh])
      go_wp2
      go_meet
      case rel => exact ⟨by rw [HT.out], hbl⟩
  case rest =>
  obtain ⟨rfl, hbl⟩ := hcut
  obtain ⟨⟨c0, c1, c2, c3, c4, c5, c6, c7⟩, -, -⟩ := (HA.out.later hbl).eight
  go_upto_if 15 with fail
  go_cut [3] from 5 (fun s W => s = .string (bareS m c t ec sd ok sp rs 2) ∧ Below w0.heap.size w0 W)
  case first =>
    rcases Bool.eq_false_or_eq_true sd with hh | hh
    all_goals subst hh
    · have HT : Hid (bareS m c t ec true ok sp rs 2 = bareS m c t ec true ok sp rs 1 ++ (⟨#[3, 3]⟩ ++ txt c 1)) := bareS_yes _ _ _ _ _ _ _ _ 1 _ (by simp [partL, txt])
      have hz := bareS_b m c t ec true ok sp rs 1 (by decide) HN4.out
      generalize bareS m c t ec true ok sp rs 1 = S at *
      have q1 : ∀ W, (Op.stringOp .add ⟨#[3, 3]⟩ (txt c 1)).run Tryz.prog W = .ok (.string (⟨#[3, 3]⟩ ++ (txt c 1))) W := fun W => run_string_add_sum W _ _ (by have e1 : (⟨#[2, 4]⟩ : ByteArray).size = 2 := rfl; have e2 : (⟨#[3, 3]⟩ : ByteArray).size = 2 := rfl; have e3 : (⟨#[4, 2]⟩ : ByteArray).size = 2 := rfl; have e4 : (⟨#[8, 10]⟩ : ByteArray).size = 2 := rfl; have e5 : (⟨#[5]⟩ : ByteArray).size = 1 := rfl; (repeat rw [ByteArray.size_append]); (repeat rw [txt_size]); omega)
      have q2 : ∀ W, (Op.stringOp .add S (⟨#[3, 3]⟩ ++ txt c 1)).run Tryz.prog W = .ok (.string (S ++ (⟨#[3, 3]⟩ ++ txt c 1))) W := fun W => run_string_add_sum W _ _ (by have e1 : (⟨#[2, 4]⟩ : ByteArray).size = 2 := rfl; have e2 : (⟨#[3, 3]⟩ : ByteArray).size = 2 := rfl; have e3 : (⟨#[4, 2]⟩ : ByteArray).size = 2 := rfl; have e4 : (⟨#[8, 10]⟩ : ByteArray).size = 2 := rfl; have e5 : (⟨#[5]⟩ : ByteArray).size = 1 := rfl; (repeat rw [ByteArray.size_append]); (repeat rw [txt_size]); omega)
      go_wp2_with fail
      refine (rt1 _ _).mono ?_
      rintro e w1 ⟨rfl, hb⟩
      replace hbl := bt hbl hb
      clear c0 c1 c2 c3 c4 c5 c6 c7 hb
      obtain ⟨⟨c0, c1, c2, c3, c4, c5, c6, c7⟩, -, -⟩ := (HA.out.later hbl).eight
      go_wp2
      go_meet
      case rel => exact ⟨by rw [HT.out], hbl⟩
    · have HT : Hid (bareS m c t ec false ok sp rs 2 = bareS m c t ec false ok sp rs 1) := bareS_no _ _ _ _ _ _ _ _ 1 (by simp [partL])
      go_wp2
      go_meet
      case rel => exact ⟨by rw [HT.out], hbl⟩
  case rest =>
  obtain ⟨rfl, hbl⟩ := hcut
  obtain ⟨⟨c0, c1, c2, c3, c4, c5, c6, c7⟩, -, -⟩ := (HA.out.later hbl).eight
  go_upto_if 23 with fail
  go_cut [3] from 5 (fun s W => s = .string (bareS m c t ec sd ok sp rs 3) ∧ Below w0.heap.size w0 W)
  case first =>
    rcases Bool.eq_false_or_eq_true ok with hh | hh
    all_goals subst hh
    · have HT : Hid (bareS m c t ec sd true sp rs 3 = bareS m c t ec sd true sp rs 2 ++ ⟨#[4, 2]⟩) := bareS_yes _ _ _ _ _ _ _ _ 2 _ (by simp [partL])
      have hz := bareS_b m c t ec sd true sp rs 2 (by decide) HN4.out
      generalize bareS m c t ec sd true sp rs 2 = S at *
      have q2 : ∀ W, (Op.stringOp .add S ⟨#[4, 2]⟩).run Tryz.prog W = .ok (.string (S ++ ⟨#[4, 2]⟩)) W := fun W => run_string_add_sum W _ _ (by have e1 : (⟨#[2, 4]⟩ : ByteArray).size = 2 := rfl; have e2 : (⟨#[3, 3]⟩ : ByteArray).size = 2 := rfl; have e3 : (⟨#[4, 2]⟩ : ByteArray).size = 2 := rfl; have e4 : (⟨#[8, 10]⟩ : ByteArray).size = 2 := rfl; have e5 : (⟨#[5]⟩ : ByteArray).size = 1 := rfl; (repeat rw [ByteArray.size_append]); (repeat rw [txt_size]); omega)
      go_wp2
      go_meet
      case rel => exact ⟨by rw [HT.out], hbl⟩
    · have HT : Hid (bareS m c t ec sd false sp rs 3 = bareS m c t ec sd false sp rs 2) := bareS_no _ _ _ _ _ _ _ _ 2 (by simp [partL])
      go_wp2
      go_meet
      case rel => exact ⟨by rw [HT.out], hbl⟩
  case rest =>
  obtain ⟨rfl, hbl⟩ := hcut
  obtain ⟨⟨c0, c1, c2, c3, c4, c5, c6, c7⟩, -, -⟩ := (HA.out.later hbl).eight
  go_upto_if 27 with fail
  go_cut [3] from 5 (fun s W => s = .string (bareS m c t ec sd ok sp rs 4) ∧ Below w0.heap.size w0 W)
  case first =>
    rcases Bool.eq_false_or_eq_true sp with hh | hh
    all_goals subst hh
    · have HT : Hid (bareS m c t ec sd ok true rs 4 = bareS m c t ec sd ok true rs 3 ++ (⟨#[8, 10]⟩ ++ txt t 4 ++ txt ec 4)) := bareS_yes _ _ _ _ _ _ _ _ 3 _ (by simp [partL, txt])
      have hz := bareS_b m c t ec sd ok true rs 3 (by decide) HN4.out
      generalize bareS m c t ec sd ok true rs 3 = S at *
      have q1 : ∀ W, (Op.stringOp .add ⟨#[8, 10]⟩ (txt t 4)).run Tryz.prog W = .ok (.string (⟨#[8, 10]⟩ ++ (txt t 4))) W := fun W => run_string_add_sum W _ _ (by have e1 : (⟨#[2, 4]⟩ : ByteArray).size = 2 := rfl; have e2 : (⟨#[3, 3]⟩ : ByteArray).size = 2 := rfl; have e3 : (⟨#[4, 2]⟩ : ByteArray).size = 2 := rfl; have e4 : (⟨#[8, 10]⟩ : ByteArray).size = 2 := rfl; have e5 : (⟨#[5]⟩ : ByteArray).size = 1 := rfl; (repeat rw [ByteArray.size_append]); (repeat rw [txt_size]); omega)
      have q2 : ∀ W, (Op.stringOp .add (⟨#[8, 10]⟩ ++ txt t 4) (txt ec 4)).run Tryz.prog W = .ok (.string ((⟨#[8, 10]⟩ ++ txt t 4) ++ (txt ec 4))) W := fun W => run_string_add_sum W _ _ (by have e1 : (⟨#[2, 4]⟩ : ByteArray).size = 2 := rfl; have e2 : (⟨#[3, 3]⟩ : ByteArray).size = 2 := rfl; have e3 : (⟨#[4, 2]⟩ : ByteArray).size = 2 := rfl; have e4 : (⟨#[8, 10]⟩ : ByteArray).size = 2 := rfl; have e5 : (⟨#[5]⟩ : ByteArray).size = 1 := rfl; (repeat rw [ByteArray.size_append]); (repeat rw [txt_size]); omega)
      have q3 : ∀ W, (Op.stringOp .add S (⟨#[8, 10]⟩ ++ txt t 4 ++ txt ec 4)).run Tryz.prog W = .ok (.string (S ++ (⟨#[8, 10]⟩ ++ txt t 4 ++ txt ec 4))) W := fun W => run_string_add_sum W _ _ (by have e1 : (⟨#[2, 4]⟩ : ByteArray).size = 2 := rfl; have e2 : (⟨#[3, 3]⟩ : ByteArray).size = 2 := rfl; have e3 : (⟨#[4, 2]⟩ : ByteArray).size = 2 := rfl; have e4 : (⟨#[8, 10]⟩ : ByteArray).size = 2 := rfl; have e5 : (⟨#[5]⟩ : ByteArray).size = 1 := rfl; (repeat rw [ByteArray.size_append]); (repeat rw [txt_size]); omega)
      have hx : Below w0.heap.size w0 wc ∧ wc.cell? ⟨w.heap.size, 2, none⟩ = some (.int .i64 t) ∧ wc.cell? ⟨w.heap.size, 3, none⟩ = some (.int .i64 ec) := ⟨hbl, c2, c3⟩
      go_wp2
      clear c0 c1 c2 c3 c4 c5 c6 c7 hbl
      go_region_held3 (fun W => Below w0.heap.size w0 W ∧ W.cell? ⟨w.heap.size, 2, none⟩ = some (.int .i64 t) ∧ W.cell? ⟨w.heap.size, 3, none⟩ = some (.int .i64 ec)) (first | exact ⟨hx.1.drew, hx.2⟩ | (refine keepT hb ?_; assumption)) (first | (go_at_call 120; refine (rt4 _ _).mono ?_; rintro e w' ⟨rfl, hb⟩))
      all_goals
        rename_i hz'
        go_wp2
        go_meet
        case rel => exact ⟨by rw [HT.out], hz'.1⟩
    · have HT : Hid (bareS m c t ec sd ok false rs 4 = bareS m c t ec sd ok false rs 3) := bareS_no _ _ _ _ _ _ _ _ 3 (by simp [partL])
      go_wp2
      go_meet
      case rel => exact ⟨by rw [HT.out], hbl⟩
  case rest =>
  obtain ⟨rfl, hbl⟩ := hcut
  obtain ⟨⟨c0, c1, c2, c3, c4, c5, c6, c7⟩, -, -⟩ := (HA.out.later hbl).eight
  go_upto_if 41 with fail
  go_cut [3] from 5 (fun s W => s = .string (bareK m c t ec sd ok sp rs 0) ∧ Below w0.heap.size w0 W)
  case first =>
    by_cases h0 : 0 < rs.length
    · have HT : Hid (bareK m c t ec sd ok sp rs 0 = bareS m c t ec sd ok sp rs 4 ++ (⟨#[5]⟩ ++ txt (2 + 8 * rs.length) 1)) := by show _ = _; rw [bareK_zero, if_pos h0]
      have hz := bareS_b m c t ec sd ok sp rs 4 (by decide) HN4.out
      generalize bareS m c t ec sd ok sp rs 4 = S at *
      have h0' : (0 : Int) < (rs.length : Int) := by omega
      have hn' : (rs.length : Int) ≤ 4 := by omega
      have q1 : ∀ W, (Op.stringOp .add ⟨#[5]⟩ (txt (2 + 8 * (rs.length : Int)) 1)).run Tryz.prog W = .ok (.string (⟨#[5]⟩ ++ (txt (2 + 8 * (rs.length : Int)) 1))) W := fun W => run_string_add_sum W _ _ (by have e1 : (⟨#[2, 4]⟩ : ByteArray).size = 2 := rfl; have e2 : (⟨#[3, 3]⟩ : ByteArray).size = 2 := rfl; have e3 : (⟨#[4, 2]⟩ : ByteArray).size = 2 := rfl; have e4 : (⟨#[8, 10]⟩ : ByteArray).size = 2 := rfl; have e5 : (⟨#[5]⟩ : ByteArray).size = 1 := rfl; (repeat rw [ByteArray.size_append]); (repeat rw [txt_size]); omega)
      have q2 : ∀ W, (Op.stringOp .add S (⟨#[5]⟩ ++ txt (2 + 8 * (rs.length : Int)) 1)).run Tryz.prog W = .ok (.string (S ++ (⟨#[5]⟩ ++ txt (2 + 8 * (rs.length : Int)) 1))) W := fun W => run_string_add_sum W _ _ (by have e1 : (⟨#[2, 4]⟩ : ByteArray).size = 2 := rfl; have e2 : (⟨#[3, 3]⟩ : ByteArray).size = 2 := rfl; have e3 : (⟨#[4, 2]⟩ : ByteArray).size = 2 := rfl; have e4 : (⟨#[8, 10]⟩ : ByteArray).size = 2 := rfl; have e5 : (⟨#[5]⟩ : ByteArray).size = 1 := rfl; (repeat rw [ByteArray.size_append]); (repeat rw [txt_size]); omega)
      go_wp2_with fail
      refine (rt1 _ _).mono ?_
      rintro e w1 ⟨rfl, hb⟩
      replace hbl := bt hbl hb
      go_wp2
      go_meet
      case rel => exact ⟨by rw [HT.out], hbl⟩
    · have HT : Hid (bareK m c t ec sd ok sp rs 0 = bareS m c t ec sd ok sp rs 4) := by show _ = _; rw [bareK_zero, if_neg h0]; apply ba_toList; simp
      have h0' : ¬ (0 : Int) < (rs.length : Int) := by omega
      go_wp2
      go_meet
      case rel => exact ⟨by rw [HT.out], hbl⟩
  case rest =>
  obtain ⟨rfl, hbl⟩ := hcut
  go_wp2
  go_loopw [3, 4] (fun s i W => ∃ k : Nat, k ≤ rs.length ∧ i = .int .i64 k ∧ s = .string (bareK m c t ec sd ok sp rs k) ∧ Below w0.heap.size w0 W) (fun _ i _ => rs.length - (intOf i).toNat)
  case atStart => exact ⟨0, Nat.zero_le _, rfl, rfl, hbl⟩
  case round =>
    clear hbl c0 c1 c2 c3 c4 c5 c6 c7
    obtain ⟨k, hk, rfl, rfl, hbl⟩ := hrel
    obtain ⟨⟨c0, c1, c2, c3, c4, c5, c6, c7⟩, -, -⟩ := (HA.out.later hbl).eight
    have hn' : (rs.length : Int) ≤ 4 := by omega
    by_cases hlt : k < rs.length
    · obtain ⟨r, hr⟩ : ∃ r, rs[k]? = some r := ⟨rs[k], List.getElem?_eq_getElem hlt⟩
      have HS : Hid (bareK m c t ec sd ok sp rs (k + 1) = bareK m c t ec sd ok sp rs k ++ (txt r.1 4 ++ txt r.2 4)) := bareK_step m c t ec sd ok sp rs k r hr
      obtain ⟨b, off, hxa, x1, x2⟩ : ∃ b off, x = some ⟨b, off, none⟩ ∧ w0.cell? ⟨b, off + k * 2, none⟩ = some (.int .i64 r.1) ∧ w0.cell? ⟨b, off + k * 2 + 1, none⟩ = some (.int .i64 r.2) := by
        obtain ⟨a', cap', e, -, h⟩ := HV.out
        simp only [Value.slice.injEq] at e
        obtain ⟨rfl, -, -⟩ := e
        rcases h with h | ⟨b, off, h, hx⟩
        · rw [h] at hr; simp at hr
        · exact ⟨b, off, h, hx k r hr⟩
      subst hxa
      obtain ⟨X, Y⟩ := r
      simp only at x1 x2
      replace x1 := later hbl x1
      replace x2 := later hbl x2
      have l0 : (0 : Int) ≤ (k : Int) := by omega
      have l1 : (k : Int) < (rs.length : Int) := by omega
      have hz := bareK_le m c t ec sd ok sp rs k hn
      generalize bareK m c t ec sd ok sp rs k = S at *
      have q1 : ∀ W, (Op.stringOp .add (txt X 4) (txt Y 4)).run Tryz.prog W = .ok (.string ((txt X 4) ++ (txt Y 4))) W := fun W => run_string_add_sum W _ _ (by have e1 : (⟨#[2, 4]⟩ : ByteArray).size = 2 := rfl; have e2 : (⟨#[3, 3]⟩ : ByteArray).size = 2 := rfl; have e3 : (⟨#[4, 2]⟩ : ByteArray).size = 2 := rfl; have e4 : (⟨#[8, 10]⟩ : ByteArray).size = 2 := rfl; have e5 : (⟨#[5]⟩ : ByteArray).size = 1 := rfl; (repeat rw [ByteArray.size_append]); (repeat rw [txt_size]); omega)
      have q2 : ∀ W, (Op.stringOp .add S (txt X 4 ++ txt Y 4)).run Tryz.prog W = .ok (.string (S ++ (txt X 4 ++ txt Y 4))) W := fun W => run_string_add_sum W _ _ (by have e1 : (⟨#[2, 4]⟩ : ByteArray).size = 2 := rfl; have e2 : (⟨#[3, 3]⟩ : ByteArray).size = 2 := rfl; have e3 : (⟨#[4, 2]⟩ : ByteArray).size = 2 := rfl; have e4 : (⟨#[8, 10]⟩ : ByteArray).size = 2 := rfl; have e5 : (⟨#[5]⟩ : ByteArray).size = 1 := rfl; (repeat rw [ByteArray.size_append]); (repeat rw [txt_size]); omega)
      have hx : Below w0.heap.size w0 wr ∧ wr.cell? ⟨w.heap.size, 7, none⟩ = some (.slice (some ⟨b, off, none⟩) rs.length cap) ∧ wr.cell? ⟨b, off + k * 2, none⟩ = some (.int .i64 X) ∧ wr.cell? ⟨b, off + k * 2 + 1, none⟩ = some (.int .i64 Y) := ⟨hbl, c7, x1, x2⟩
      clear hz hr
      go_wp2
      clear c0 c1 c2 c3 c4 c5 c6 c7 hbl x1 x2
      go_region_held3 (fun W => Below w0.heap.size w0 W ∧ W.cell? ⟨w.heap.size, 7, none⟩ = some (.slice (some ⟨b, off, none⟩) rs.length cap) ∧ W.cell? ⟨b, off + k * 2, none⟩ = some (.int .i64 X) ∧ W.cell? ⟨b, off + k * 2 + 1, none⟩ = some (.int .i64 Y)) (first | exact ⟨hx.1.drew, hx.2⟩ | (refine keepU hb ?_; assumption)) (first | (go_at_call 120; refine (rt4 _ _).mono ?_; rintro e w' ⟨rfl, hb⟩))
      all_goals
        rename_i hz'
        go_wp2
        go_roundw
        case rel => exact ⟨k + 1, by omega, by go_num, by rw [HS.out], hz'.1⟩
        case measure => simp [intOf]; omega
    · have hk' : k = rs.length := by omega
      subst hk'
      rw [bareK_all]
      go_wp2
      go_ret
      exact ⟨rfl, bt HL.out hbl⟩
end Go.Proofs.YtkpdmgoldngdaaaGreatDoor

namespace Go.Proofs.YtkpdmgoldngdaaaGreatDoor
open Go.RowKit
set_option maxRecDepth 100000

theorem rchk_t (a : Int) (w : World) (h : numB a = true) : Calls Tryz.prog 75 #[.int .i64 a] w fun e w' => e = .returned (.int .i64 0) ∧ w' = w := by
  have := seq_rcheck_any a w
  rw [h] at this
  exact this
theorem rchk_f (a : Int) (w : World) (h : numB a = false) : Calls Tryz.prog 75 #[.int .i64 a] w fun e w' => e = .returned (.int .i64 1) ∧ w' = w := by
  have := seq_rcheck_any a w
  rw [h] at this
  exact this
def zerS (S : ByteArray) (j : Nat) : ByteArray := S ++ ⟨(List.replicate j 0).toArray⟩
theorem zerS_zero (S : ByteArray) : zerS S 0 = S := by apply ba_toList; simp [zerS]
theorem zerS_size (S : ByteArray) (j : Nat) : (zerS S j).size = S.size + j := by
  unfold zerS
  rw [ByteArray.size_append]
  have : (⟨(List.replicate j (0 : UInt8)).toArray⟩ : ByteArray).size = j := by show (List.replicate j (0 : UInt8)).toArray.size = j; simp
  omega
theorem zerS_succ (S : ByteArray) (j : Nat) : zerS S (j + 1) = zerS S j ++ ⟨#[0]⟩ := by
  apply ba_toList
  simp [zerS, List.replicate_succ']
theorem encO_zer (m c t ec : Int) (sd ok sp : Bool) (rs : List (Int × Int)) : encO m c t ec sd ok sp rs = zerS (bareS m c t ec sd ok sp rs 5) (longN m sd ok sp rs.length - lenK m sd ok sp rs.length 5) := by
  apply ba_toList
  unfold zerS
  rw [app_data]
  rfl
def szB : Value → Nat | .string x => x.size | _ => 0
set_option maxRecDepth 100000 in
set_option maxHeartbeats 2000000 in
theorem rbytes_any (m c t ec : Int) (sd ok sp : Bool) (v : Value) (rs : List (Int × Int)) (w : World) (hv : Rgs w v rs) (hn : rs.length ≤ 4) :
    Calls Tryz.prog 148 #[.agg #[.int .i64 m, .int .i64 c, .int .i64 t, .int .i64 ec, .bool sd, .bool ok, .bool sp, v]] w fun e w' => e = .returned (.string (encO m c t ec sd ok sp rs)) ∧ Below w.heap.size w w' := by
  obtain ⟨x, cap, hvx, -⟩ := id hv
  subst hvx
  have hl := bel1 w (.cells #[.int .i64 m, .int .i64 c, .int .i64 t, .int .i64 ec, .bool sd, .bool ok, .bool sp, (.slice x rs.length cap)] 32)
  have HB : Hid (∀ W, Rgs W (.slice x rs.length cap) rs → Calls Tryz.prog 164 #[.agg #[.int .i64 m, .int .i64 c, .int .i64 t, .int .i64 ec, .bool sd, .bool ok, .bool sp, (.slice x rs.length cap)]] W fun e w' => e = .returned (.string (bareS m c t ec sd ok sp rs 5)) ∧ Below W.heap.size W w') := fun W h => rbare_any m c t ec sd ok sp _ rs W h hn
  obtain ⟨⟨c0, c1, c2, c3, c4, c5, c6, c7⟩, -, -⟩ := (At.box w #[.int .i64 m, .int .i64 c, .int .i64 t, .int .i64 ec, .bool sd, .bool ok, .bool sp, (.slice x rs.length cap)] 32).eight
  have hz := bareS_size m c t ec sd ok sp rs
  have hge := long_ge m sd ok sp rs.length
  have h4 : longN m sd ok sp rs.length % 4 = 0 := by unfold longN; omega
  have hb4 := lenK_le m sd ok sp rs.length 5
  have HE := encO_zer m c t ec sd ok sp rs
  obtain ⟨J, hJ⟩ : ∃ J, J = longN m sd ok sp rs.length - lenK m sd ok sp rs.length 5 := ⟨_, rfl⟩
  rw [← hJ] at HE
  rw [HE]
  generalize bareS m c t ec sd ok sp rs 5 = S at *
  have hSJ : (S.size + J) % 4 = 0 ∧ J ≤ 3 ∧ S.size ≤ 60 := by omega
  clear hz hge h4 hb4 HE hJ
  go_enter Tryz.func148, Tryz.ntmps148
  go_wp2_with fail
  refine (HB.out _ (hv.later hl)).mono ?_
  rintro e w1 ⟨rfl, hb⟩
  replace hl := bt hl hb
  clear c0 c1 c2 c3 c4 c5 c6 c7 hb
  go_wp2
  go_loopw [3] (fun s W => ∃ j : Nat, j ≤ J ∧ s = .string (zerS S j) ∧ Below w.heap.size w W) (fun s _ => S.size + J - szB s)
  case atStart => exact ⟨0, Nat.zero_le _, by rw [zerS_zero], hl⟩
  case round =>
    clear hl
    obtain ⟨j, hj, rfl, hbl⟩ := hrel
    have hs := zerS_size S j
    have HS : Hid (zerS S (j + 1) = zerS S j ++ ⟨#[0]⟩) := zerS_succ S j
    by_cases hlt : j < J
    · have hs' := zerS_size S (j + 1)
      generalize zerS S j = Z at *
      have q2 : ∀ W, (Op.stringOp .add Z ⟨#[0]⟩).run Tryz.prog W = .ok (.string (Z ++ ⟨#[0]⟩)) W := fun W => run_string_add_sum W _ _ (by have e5 : (⟨#[0]⟩ : ByteArray).size = 1 := rfl; omega)
      have ht : ((Z.size : Int) % 4 != 0) = true := by simp; omega
      have hzz : (Z.size : Int) ≤ 100 := by omega
      go_wp2
      go_roundw
      case rel => exact ⟨j + 1, by omega, by rw [HS.out], hbl⟩
      case measure => rw [← HS.out]; show S.size + J - (zerS S (j + 1)).size < S.size + J - Z.size; omega
    · have hk' : j = J := by omega
      subst hk'
      obtain ⟨Z, hZ⟩ : ∃ Z, Z = zerS S j := ⟨_, rfl⟩
      rw [← hZ] at hs ⊢
      have HZ : Hid (Z = zerS S j) := hZ
      clear hZ
      have ht : ((Z.size : Int) % 4 != 0) = false := by simp; omega
      have hzz : (Z.size : Int) ≤ 100 := by omega
      clear HS
      go_wp2
      go_ret
      exact ⟨by rw [← HZ.out]; rfl, hbl⟩
def preB (m c t ec : Int) (sd sp : Bool) (n : Nat) : Bool := fitsB m 65535 && fitsB c 14 && (sd || decide (c = 0)) && numB t && numB ec && (sp || (decide (t = 0) && decide (ec = 0))) && decide (n ≤ 4)
theorem mayO_pre (m c t ec : Int) (sd ok sp : Bool) (rs : List (Int × Int)) : mayO m c t ec sd ok sp rs = (preB m c t ec sd sp rs.length && !(rs.any fun r => !rgB r) && decide (longN m sd ok sp rs.length ≤ 40)) := by
  unfold mayO preB
  have h := longN_le m sd ok sp rs.length
  have h2 := lenK_le m sd ok sp rs.length 5
  by_cases h4 : rs.length ≤ 4
  · rw [decide_eq_true h4]
    simp only [Bool.and_true]
    generalize (fitsB m 65535 && fitsB c 14 && (sd || decide (c = 0)) && numB t && numB ec && (sp || (decide (t = 0) && decide (ec = 0)))) = X
    generalize (!(rs.any fun r => !rgB r)) = Y
    generalize decide (longN m sd ok sp rs.length ≤ 40) = Z
    cases X <;> cases Y <;> cases Z <;> rfl
  · have hg : ¬ longN m sd ok sp rs.length ≤ 40 := by
      have h5 : 40 + 2 ≤ lenK m sd ok sp rs.length 5 := by
        unfold lenK
        rw [if_pos (show 4 < 5 ∧ 0 < rs.length from ⟨by omega, by omega⟩)]
        omega
      have := long_ge m sd ok sp rs.length
      omega
    rw [decide_eq_false h4, decide_eq_false hg]
    simp
set_option maxRecDepth 100000 in
set_option maxHeartbeats 4000000 in
theorem rcheck_o (m c t ec : Int) (sd ok sp : Bool) (v : Value) (rs : List (Int × Int)) (w : World) (hv : Rgs w v rs) (hn : rs.length ≤ 17592186044416) :
    Calls Tryz.prog 122 #[.agg #[.int .i64 m, .int .i64 c, .int .i64 t, .int .i64 ec, .bool sd, .bool ok, .bool sp, v]] w fun e w' => e = .returned (.int .i64 (codeO (mayO m c t ec sd ok sp rs))) ∧ Below w.heap.size w w' := by
  obtain ⟨x, cap, hvx, -⟩ := id hv
  subst hvx
  have hA := At.box w #[.int .i64 m, .int .i64 c, .int .i64 t, .int .i64 ec, .bool sd, .bool ok, .bool sp, (.slice x rs.length cap)] 32
  have hl := bel1 w (.cells #[.int .i64 m, .int .i64 c, .int .i64 t, .int .i64 ec, .bool sd, .bool ok, .bool sp, (.slice x rs.length cap)] 32)
  have hv0 := hv.later hl
  have HM : Hid (mayO m c t ec sd ok sp rs = (preB m c t ec sd sp rs.length && !(rs.any fun r => !rgB r) && decide (longN m sd ok sp rs.length ≤ 40))) := mayO_pre m c t ec sd ok sp rs
  obtain ⟨⟨c0, c1, c2, c3, c4, c5, c6, c7⟩, -, -⟩ := hA.eight
  go_enter Tryz.func122, Tryz.ntmps122
  go_upto_region 1 with fail
  generalize w.alloc (.cells #[.int .i64 m, .int .i64 c, .int .i64 t, .int .i64 ec, .bool sd, .bool ok, .bool sp, (.slice x rs.length cap)] 32) = w0 at *
  have HA : Hid (At w0 w.heap.size #[.int .i64 m, .int .i64 c, .int .i64 t, .int .i64 ec, .bool sd, .bool ok, .bool sp, (.slice x rs.length cap)]) := hA
  have HL : Hid (Below w.heap.size w w0) := hl
  have HV : Hid (Rgs w0 (.slice x rs.length cap) rs) := hv0
  clear hA hl hv0 hv
  go_cut [65] from 5 (fun s W => s = .bool (!preB m c t ec sd sp rs.length) ∧ W = w0)
  case first =>
    clear HA HL HV HM
    by_cases h1 : m < 0
    · have HP : Hid (preB m c t ec sd sp rs.length = false) := by show _ = _; simp [preB, fitsB, show ¬ 0 ≤ m by omega]
      go_wp2_with (first | (go_at_call 75; refine (rchk_t _ _ (by assumption)).mono ?_; rintro e w' ⟨rfl, rfl⟩) | (go_at_call 75; refine (rchk_f _ _ (by assumption)).mono ?_; rintro e w' ⟨rfl, rfl⟩) | go_in)
      go_meet
      case rel => exact ⟨by rw [HP.out]; first | rfl | (congr 1; simp; omega), rfl⟩
    by_cases h2 : 65535 < m
    · have HP : Hid (preB m c t ec sd sp rs.length = false) := by show _ = _; simp [preB, fitsB, show ¬ m ≤ 65535 by omega]
      go_wp2_with (first | (go_at_call 75; refine (rchk_t _ _ (by assumption)).mono ?_; rintro e w' ⟨rfl, rfl⟩) | (go_at_call 75; refine (rchk_f _ _ (by assumption)).mono ?_; rintro e w' ⟨rfl, rfl⟩) | go_in)
      go_meet
      case rel => exact ⟨by rw [HP.out]; first | rfl | (congr 1; simp; omega), rfl⟩
    by_cases h3 : c < 0
    · have HP : Hid (preB m c t ec sd sp rs.length = false) := by show _ = _; simp [preB, fitsB, show ¬ 0 ≤ c by omega]
      go_wp2_with (first | (go_at_call 75; refine (rchk_t _ _ (by assumption)).mono ?_; rintro e w' ⟨rfl, rfl⟩) | (go_at_call 75; refine (rchk_f _ _ (by assumption)).mono ?_; rintro e w' ⟨rfl, rfl⟩) | go_in)
      go_meet
      case rel => exact ⟨by rw [HP.out]; first | rfl | (congr 1; simp; omega), rfl⟩
    by_cases h4 : 14 < c
    · have HP : Hid (preB m c t ec sd sp rs.length = false) := by show _ = _; simp [preB, fitsB, show ¬ c ≤ 14 by omega]
      go_wp2_with (first | (go_at_call 75; refine (rchk_t _ _ (by assumption)).mono ?_; rintro e w' ⟨rfl, rfl⟩) | (go_at_call 75; refine (rchk_f _ _ (by assumption)).mono ?_; rintro e w' ⟨rfl, rfl⟩) | go_in)
      go_meet
      case rel => exact ⟨by rw [HP.out]; first | rfl | (congr 1; simp; omega), rfl⟩
    have hsd : sd = true ∨ (sd = false ∧ c = 0) ∨ (sd = false ∧ ¬ c = 0) := by cases sd <;> simp <;> omega
    rcases hsd with rfl | ⟨rfl, rfl⟩ | ⟨rfl, h5⟩
    · skip
      rcases (Bool.eq_false_or_eq_true (numB t)).symm with h6 | h6
      · skip
        have HP : Hid (preB m c t ec true sp rs.length = false) := by show _ = _; simp [preB, h6]
        go_wp2_with (first | (go_at_call 75; refine (rchk_t _ _ (by assumption)).mono ?_; rintro e w' ⟨rfl, rfl⟩) | (go_at_call 75; refine (rchk_f _ _ (by assumption)).mono ?_; rintro e w' ⟨rfl, rfl⟩) | go_in)
        go_meet
        case rel => exact ⟨by rw [HP.out]; first | rfl | (congr 1; simp; omega), rfl⟩
      rcases (Bool.eq_false_or_eq_true (numB ec)).symm with h7 | h7
      · skip
        have HP : Hid (preB m c t ec true sp rs.length = false) := by show _ = _; simp [preB, h7]
        go_wp2_with (first | (go_at_call 75; refine (rchk_t _ _ (by assumption)).mono ?_; rintro e w' ⟨rfl, rfl⟩) | (go_at_call 75; refine (rchk_f _ _ (by assumption)).mono ?_; rintro e w' ⟨rfl, rfl⟩) | go_in)
        go_meet
        case rel => exact ⟨by rw [HP.out]; first | rfl | (congr 1; simp; omega), rfl⟩
      have hsp : sp = true ∨ (sp = false ∧ t = 0 ∧ ec = 0) ∨ (sp = false ∧ t = 0 ∧ ¬ ec = 0) ∨ (sp = false ∧ ¬ t = 0) := by cases sp <;> simp <;> omega
      rcases hsp with rfl | ⟨rfl, rfl, rfl⟩ | ⟨rfl, rfl, h8⟩ | ⟨rfl, h8⟩
      · skip
        by_cases h9 : rs.length ≤ 4
        · have h9b : ¬ (4 : Int) < (rs.length : Int) := by omega
          have HP : Hid (preB m c t ec true true rs.length = true) := by show _ = _; simp [preB, fitsB, h9, h6, h7]; omega
          go_wp2_with (first | (go_at_call 75; refine (rchk_t _ _ (by assumption)).mono ?_; rintro e w' ⟨rfl, rfl⟩) | (go_at_call 75; refine (rchk_f _ _ (by assumption)).mono ?_; rintro e w' ⟨rfl, rfl⟩) | go_in)
          go_meet
          case rel => exact ⟨by rw [HP.out]; first | rfl | (congr 1; simp; omega), rfl⟩
        · have h9b : (4 : Int) < (rs.length : Int) := by omega
          have HP : Hid (preB m c t ec true true rs.length = false) := by show _ = _; simp [preB, h9]; try omega
          go_wp2_with (first | (go_at_call 75; refine (rchk_t _ _ (by assumption)).mono ?_; rintro e w' ⟨rfl, rfl⟩) | (go_at_call 75; refine (rchk_f _ _ (by assumption)).mono ?_; rintro e w' ⟨rfl, rfl⟩) | go_in)
          go_meet
          case rel => exact ⟨by rw [HP.out]; first | rfl | (congr 1; simp; omega), rfl⟩
      · skip
        by_cases h9 : rs.length ≤ 4
        · have h9b : ¬ (4 : Int) < (rs.length : Int) := by omega
          have HP : Hid (preB m c 0 0 true false rs.length = true) := by show _ = _; simp [preB, fitsB, h9, numB]; omega
          go_wp2_with (first | (go_at_call 75; refine (rchk_t _ _ (by assumption)).mono ?_; rintro e w' ⟨rfl, rfl⟩) | (go_at_call 75; refine (rchk_f _ _ (by assumption)).mono ?_; rintro e w' ⟨rfl, rfl⟩) | go_in)
          go_meet
          case rel => exact ⟨by rw [HP.out]; first | rfl | (congr 1; simp; omega), rfl⟩
        · have h9b : (4 : Int) < (rs.length : Int) := by omega
          have HP : Hid (preB m c 0 0 true false rs.length = false) := by show _ = _; simp [preB, h9]; try omega
          go_wp2_with (first | (go_at_call 75; refine (rchk_t _ _ (by assumption)).mono ?_; rintro e w' ⟨rfl, rfl⟩) | (go_at_call 75; refine (rchk_f _ _ (by assumption)).mono ?_; rintro e w' ⟨rfl, rfl⟩) | go_in)
          go_meet
          case rel => exact ⟨by rw [HP.out]; first | rfl | (congr 1; simp; omega), rfl⟩
      · skip
        have h8b : (ec != 0) = true := by simpa using h8
        have HP : Hid (preB m c 0 ec true false rs.length = false) := by show _ = _; simp [preB, h8]
        go_wp2_with (first | (go_at_call 75; refine (rchk_t _ _ (by assumption)).mono ?_; rintro e w' ⟨rfl, rfl⟩) | (go_at_call 75; refine (rchk_f _ _ (by assumption)).mono ?_; rintro e w' ⟨rfl, rfl⟩) | go_in)
        go_meet
        case rel => exact ⟨by rw [HP.out]; first | rfl | (congr 1; simp; omega), rfl⟩
      · skip
        have h8b : (t != 0) = true := by simpa using h8
        have HP : Hid (preB m c t ec true false rs.length = false) := by show _ = _; simp [preB, h8]
        go_wp2_with (first | (go_at_call 75; refine (rchk_t _ _ (by assumption)).mono ?_; rintro e w' ⟨rfl, rfl⟩) | (go_at_call 75; refine (rchk_f _ _ (by assumption)).mono ?_; rintro e w' ⟨rfl, rfl⟩) | go_in)
        go_meet
        case rel => exact ⟨by rw [HP.out]; first | rfl | (congr 1; simp; omega), rfl⟩
    · skip
      rcases (Bool.eq_false_or_eq_true (numB t)).symm with h6 | h6
      · skip
        have HP : Hid (preB m 0 t ec false sp rs.length = false) := by show _ = _; simp [preB, h6]
        go_wp2_with (first | (go_at_call 75; refine (rchk_t _ _ (by assumption)).mono ?_; rintro e w' ⟨rfl, rfl⟩) | (go_at_call 75; refine (rchk_f _ _ (by assumption)).mono ?_; rintro e w' ⟨rfl, rfl⟩) | go_in)
        go_meet
        case rel => exact ⟨by rw [HP.out]; first | rfl | (congr 1; simp; omega), rfl⟩
      rcases (Bool.eq_false_or_eq_true (numB ec)).symm with h7 | h7
      · skip
        have HP : Hid (preB m 0 t ec false sp rs.length = false) := by show _ = _; simp [preB, h7]
        go_wp2_with (first | (go_at_call 75; refine (rchk_t _ _ (by assumption)).mono ?_; rintro e w' ⟨rfl, rfl⟩) | (go_at_call 75; refine (rchk_f _ _ (by assumption)).mono ?_; rintro e w' ⟨rfl, rfl⟩) | go_in)
        go_meet
        case rel => exact ⟨by rw [HP.out]; first | rfl | (congr 1; simp; omega), rfl⟩
      have hsp : sp = true ∨ (sp = false ∧ t = 0 ∧ ec = 0) ∨ (sp = false ∧ t = 0 ∧ ¬ ec = 0) ∨ (sp = false ∧ ¬ t = 0) := by cases sp <;> simp <;> omega
      rcases hsp with rfl | ⟨rfl, rfl, rfl⟩ | ⟨rfl, rfl, h8⟩ | ⟨rfl, h8⟩
      · skip
        by_cases h9 : rs.length ≤ 4
        · have h9b : ¬ (4 : Int) < (rs.length : Int) := by omega
          have HP : Hid (preB m 0 t ec false true rs.length = true) := by show _ = _; simp [preB, fitsB, h9, h6, h7]; omega
          go_wp2_with (first | (go_at_call 75; refine (rchk_t _ _ (by assumption)).mono ?_; rintro e w' ⟨rfl, rfl⟩) | (go_at_call 75; refine (rchk_f _ _ (by assumption)).mono ?_; rintro e w' ⟨rfl, rfl⟩) | go_in)
          go_meet
          case rel => exact ⟨by rw [HP.out]; first | rfl | (congr 1; simp; omega), rfl⟩
        · have h9b : (4 : Int) < (rs.length : Int) := by omega
          have HP : Hid (preB m 0 t ec false true rs.length = false) := by show _ = _; simp [preB, h9]; try omega
          go_wp2_with (first | (go_at_call 75; refine (rchk_t _ _ (by assumption)).mono ?_; rintro e w' ⟨rfl, rfl⟩) | (go_at_call 75; refine (rchk_f _ _ (by assumption)).mono ?_; rintro e w' ⟨rfl, rfl⟩) | go_in)
          go_meet
          case rel => exact ⟨by rw [HP.out]; first | rfl | (congr 1; simp; omega), rfl⟩
      · skip
        by_cases h9 : rs.length ≤ 4
        · have h9b : ¬ (4 : Int) < (rs.length : Int) := by omega
          have HP : Hid (preB m 0 0 0 false false rs.length = true) := by show _ = _; simp [preB, fitsB, h9, numB]; omega
          go_wp2_with (first | (go_at_call 75; refine (rchk_t _ _ (by assumption)).mono ?_; rintro e w' ⟨rfl, rfl⟩) | (go_at_call 75; refine (rchk_f _ _ (by assumption)).mono ?_; rintro e w' ⟨rfl, rfl⟩) | go_in)
          go_meet
          case rel => exact ⟨by rw [HP.out]; first | rfl | (congr 1; simp; omega), rfl⟩
        · have h9b : (4 : Int) < (rs.length : Int) := by omega
          have HP : Hid (preB m 0 0 0 false false rs.length = false) := by show _ = _; simp [preB, h9]; try omega
          go_wp2_with (first | (go_at_call 75; refine (rchk_t _ _ (by assumption)).mono ?_; rintro e w' ⟨rfl, rfl⟩) | (go_at_call 75; refine (rchk_f _ _ (by assumption)).mono ?_; rintro e w' ⟨rfl, rfl⟩) | go_in)
          go_meet
          case rel => exact ⟨by rw [HP.out]; first | rfl | (congr 1; simp; omega), rfl⟩
      · skip
        have h8b : (ec != 0) = true := by simpa using h8
        have HP : Hid (preB m 0 0 ec false false rs.length = false) := by show _ = _; simp [preB, h8]
        go_wp2_with (first | (go_at_call 75; refine (rchk_t _ _ (by assumption)).mono ?_; rintro e w' ⟨rfl, rfl⟩) | (go_at_call 75; refine (rchk_f _ _ (by assumption)).mono ?_; rintro e w' ⟨rfl, rfl⟩) | go_in)
        go_meet
        case rel => exact ⟨by rw [HP.out]; first | rfl | (congr 1; simp; omega), rfl⟩
      · skip
        have h8b : (t != 0) = true := by simpa using h8
        have HP : Hid (preB m 0 t ec false false rs.length = false) := by show _ = _; simp [preB, h8]
        go_wp2_with (first | (go_at_call 75; refine (rchk_t _ _ (by assumption)).mono ?_; rintro e w' ⟨rfl, rfl⟩) | (go_at_call 75; refine (rchk_f _ _ (by assumption)).mono ?_; rintro e w' ⟨rfl, rfl⟩) | go_in)
        go_meet
        case rel => exact ⟨by rw [HP.out]; first | rfl | (congr 1; simp; omega), rfl⟩
    · skip
      have h5b : (c != 0) = true := by simpa using h5
      have HP : Hid (preB m c t ec false sp rs.length = false) := by show _ = _; simp [preB, h5]
      go_wp2_with (first | (go_at_call 75; refine (rchk_t _ _ (by assumption)).mono ?_; rintro e w' ⟨rfl, rfl⟩) | (go_at_call 75; refine (rchk_f _ _ (by assumption)).mono ?_; rintro e w' ⟨rfl, rfl⟩) | go_in)
      go_meet
      case rel => exact ⟨by rw [HP.out]; first | rfl | (congr 1; simp; omega), rfl⟩
  case rest =>
  obtain ⟨rfl, rfl⟩ := hcut
  have hmx := HM.out
  clear HM
  rcases (Bool.eq_false_or_eq_true (preB m c t ec sd sp rs.length)).symm with hp | hp
  · rw [hp] at hmx ⊢
    have HM : Hid (mayO m c t ec sd ok sp rs = false) := by show _ = _; rw [hmx]; rfl
    clear hmx hp
    go_wp2
    go_ret
    exact ⟨by rw [HM.out]; rfl, HL.out⟩
  · have hn4 : rs.length ≤ 4 := by
      unfold preB at hp
      simp only [Bool.and_eq_true, decide_eq_true_eq] at hp
      exact hp.2
    rw [hp] at hmx ⊢
    rw [Bool.not_true]
    have HM : Hid (mayO m c t ec sd ok sp rs = (!(rs.any fun r => !rgB r) && decide (longN m sd ok sp rs.length ≤ 40))) := by show _ = _; rw [hmx, Bool.true_and]
    have HN4 : Hid (rs.length ≤ 4) := hn4
    have hn' : (rs.length : Int) ≤ 4 := by omega
    have HBY : Hid (∀ W, Rgs W (.slice x rs.length cap) rs → Calls Tryz.prog 148 #[.agg #[.int .i64 m, .int .i64 c, .int .i64 t, .int .i64 ec, .bool sd, .bool ok, .bool sp, (.slice x rs.length cap)]] W fun e w' => e = .returned (.string (encO m c t ec sd ok sp rs)) ∧ Below W.heap.size W w') := fun W h => rbytes_any m c t ec sd ok sp _ rs W h hn4
    have HES : Hid ((encO m c t ec sd ok sp rs).size = longN m sd ok sp rs.length) := encO_size m c t ec sd ok sp rs
    have hlo := (longN_le m sd ok sp rs.length).2
    clear hmx hp
    generalize encO m c t ec sd ok sp rs = E at *
    generalize longN m sd ok sp rs.length = LL at *
    go_wp2
    clear c0 c1 c2 c3 c4 c5 c6 c7
    go_loopw [3] (fun i W => ∃ k : Nat, k ≤ rs.length ∧ i = .int .i64 k ∧ ((rs.take k).any fun r => !rgB r) = false ∧ Below wc.heap.size wc W) (fun i _ => rs.length - (intOf i).toNat)
    case atStart => exact ⟨0, Nat.zero_le _, rfl, by simp, Below.refl _ _⟩
    case round =>
      obtain ⟨k, hk, rfl, hany, hbl⟩ := hrel
      obtain ⟨⟨c0, c1, c2, c3, c4, c5, c6, c7⟩, -, -⟩ := (HA.out.later hbl).eight
      have hltA := (HA.out.later hbl).1
      by_cases hlt : k < rs.length
      · obtain ⟨r, hr⟩ : ∃ r, rs[k]? = some r := ⟨rs[k], List.getElem?_eq_getElem hlt⟩
        have HS : Hid (((rs.take (k + 1)).any fun r => !rgB r) = ((rs.take k).any (fun r => !rgB r) || !rgB r)) := any_step rs k r hr
        have HAI : Hid (rgB r = false → (rs.any fun r => !rgB r) = true) := any_in rs k r hr
        obtain ⟨b, off, hxa, x1, x2⟩ : ∃ b off, x = some ⟨b, off, none⟩ ∧ wc.cell? ⟨b, off + k * 2, none⟩ = some (.int .i64 r.1) ∧ wc.cell? ⟨b, off + k * 2 + 1, none⟩ = some (.int .i64 r.2) := by
          obtain ⟨a', cap', e, -, h⟩ := HV.out
          simp only [Value.slice.injEq] at e
          obtain ⟨rfl, -, -⟩ := e
          rcases h with h | ⟨b, off, h, hx⟩
          · rw [h] at hr; simp at hr
          · exact ⟨b, off, h, hx k r hr⟩
        subst hxa
        obtain ⟨X, Y⟩ := r
        simp only at x1 x2
        replace x1 := later hbl x1
        replace x2 := later hbl x2
        have hltb := World.block_lt_of_cell? _ _ x1
        simp only at hltb
        have l0 : (0 : Int) ≤ (k : Int) := by omega
        have l1 : (k : Int) < (rs.length : Int) := by omega
        have HANY : Hid (((rs.take k).any fun r => !rgB r) = false) := hany
        clear hr hany
        have hbl1 := bt hbl (bel1 wr (.cells #[.int .i64 X, .int .i64 Y] 148))
        have hway : (rgB (X, Y) = true ∧ numB X = true ∧ numB Y = true ∧ (X == Y) = false) ∨ (rgB (X, Y) = false ∧ (numB X = false ∨ (numB X = true ∧ numB Y = false) ∨ (numB X = true ∧ numB Y = true ∧ X = Y))) := by
          unfold rgB
          simp only
          cases numB X <;> cases numB Y <;> by_cases h : X = Y <;> simp [h]
        rcases hway with ⟨hg, h1, h2, h3⟩ | ⟨hg, hf⟩
        · have HG : Hid (rgB (X, Y) = true) := hg
          clear hg
          go_wp2_with (first | (go_at_call 75; refine (rchk_t _ _ (by assumption)).mono ?_; rintro e w' ⟨rfl, rfl⟩) | (go_at_call 75; refine (rchk_f _ _ (by assumption)).mono ?_; rintro e w' ⟨rfl, rfl⟩) | go_in)
          go_roundw
          case rel => exact ⟨k + 1, by omega, by go_num, by rw [HS.out, HANY.out, HG.out]; rfl, hbl1⟩
          case measure => simp [intOf]; omega
        · have HG : Hid ((rs.any fun r => !rgB r) = true) := HAI.out hg
          clear hg
          rcases hf with h1 | ⟨h1, h2⟩ | ⟨h1, h2, h3⟩
          · go_wp2_with (first | (go_at_call 75; refine (rchk_t _ _ (by assumption)).mono ?_; rintro e w' ⟨rfl, rfl⟩) | (go_at_call 75; refine (rchk_f _ _ (by assumption)).mono ?_; rintro e w' ⟨rfl, rfl⟩) | go_in)
            go_ret
            exact ⟨by rw [HM.out, HG.out]; rfl, bt HL.out hbl1⟩
          · go_wp2_with (first | (go_at_call 75; refine (rchk_t _ _ (by assumption)).mono ?_; rintro e w' ⟨rfl, rfl⟩) | (go_at_call 75; refine (rchk_f _ _ (by assumption)).mono ?_; rintro e w' ⟨rfl, rfl⟩) | go_in)
            go_ret
            exact ⟨by rw [HM.out, HG.out]; rfl, bt HL.out hbl1⟩
          · subst h3
            go_wp2_with (first | (go_at_call 75; refine (rchk_t _ _ (by assumption)).mono ?_; rintro e w' ⟨rfl, rfl⟩) | (go_at_call 75; refine (rchk_f _ _ (by assumption)).mono ?_; rintro e w' ⟨rfl, rfl⟩) | go_in)
            go_ret
            exact ⟨by rw [HM.out, HG.out]; rfl, bt HL.out hbl1⟩
      · have hk' : k = rs.length := by omega
        subst hk'
        rw [List.take_length] at hany
        have HANY : Hid ((rs.any fun r => !rgB r) = false) := hany
        clear hany
        go_wp2_with fail
        refine (HBY.out _ (HV.out.later hbl)).mono ?_
        rintro e w3 ⟨rfl, hb⟩
        have hz := HES.out
        by_cases h40 : LL ≤ 40
        · have h40' : ¬ (40 : Int) < (E.size : Int) := by omega
          have HD : Hid (decide (LL ≤ 40) = true) := decide_eq_true h40
          clear hz
          go_wp2
          go_ret
          exact ⟨by rw [HM.out, HANY.out, HD.out]; rfl, bt HL.out (bt hbl hb)⟩
        · have h40' : (40 : Int) < (E.size : Int) := by omega
          have HD : Hid (decide (LL ≤ 40) = false) := decide_eq_false h40
          clear hz
          go_wp2
          go_ret
          exact ⟨by rw [HM.out, HANY.out, HD.out]; rfl, bt HL.out (bt hbl hb)⟩
end Go.Proofs.YtkpdmgoldngdaaaGreatDoor
