/- The contract of the document's part of layer 7, but for ranges: one option is put into others, or refused; nothing that was there ahead of these turns. -/
import Derived.Test.YtecoknenkjgmjabDoorOm
import Derived.Deep.Cut
namespace Go.Proofs.YtecoknenkjgmjabDoor
open Go.RowKit
set_option maxRecDepth 100000

set_option linter.unusedVariables false
theorem At.nine {W : World} {b : Nat} {v0 v1 v2 v3 v4 v5 v6 v7 v8 : Value} (h : At W b #[v0, v1, v2, v3, v4, v5, v6, v7, v8]) : (W.cell? ⟨b, 0, none⟩ = some v0 ∧ W.cell? ⟨b, 1, none⟩ = some v1 ∧ W.cell? ⟨b, 2, none⟩ = some v2 ∧ W.cell? ⟨b, 3, none⟩ = some v3 ∧ W.cell? ⟨b, 4, none⟩ = some v4 ∧ W.cell? ⟨b, 5, none⟩ = some v5 ∧ W.cell? ⟨b, 6, none⟩ = some v6 ∧ W.cell? ⟨b, 7, none⟩ = some v7 ∧ W.cell? ⟨b, 8, none⟩ = some v8) ∧ (W.frozen? ⟨b, 0, none⟩ = false ∧ W.frozen? ⟨b, 1, none⟩ = false ∧ W.frozen? ⟨b, 2, none⟩ = false ∧ W.frozen? ⟨b, 3, none⟩ = false ∧ W.frozen? ⟨b, 4, none⟩ = false ∧ W.frozen? ⟨b, 5, none⟩ = false ∧ W.frozen? ⟨b, 6, none⟩ = false ∧ W.frozen? ⟨b, 7, none⟩ = false ∧ W.frozen? ⟨b, 8, none⟩ = false) ∧ b < W.heap.size :=
  ⟨⟨(h.2 0 _ rfl).1, (h.2 1 _ rfl).1, (h.2 2 _ rfl).1, (h.2 3 _ rfl).1, (h.2 4 _ rfl).1, (h.2 5 _ rfl).1, (h.2 6 _ rfl).1, (h.2 7 _ rfl).1, (h.2 8 _ rfl).1⟩, ⟨(h.2 0 _ rfl).2, (h.2 1 _ rfl).2, (h.2 2 _ rfl).2, (h.2 3 _ rfl).2, (h.2 4 _ rfl).2, (h.2 5 _ rfl).2, (h.2 6 _ rfl).2, (h.2 7 _ rfl).2, (h.2 8 _ rfl).2⟩, h.1⟩
theorem ne_empty' (x : ByteArray) (h : 0 < x.size) : x.toList.isEmpty = false := by
  rw [ByteArray.toList_eq]
  cases e : x.data.toList with
  | nil =>
    have : x.size = 0 := by rw [← toList_size, e]; rfl
    omega
  | cons a l => rfl
/-- What the document holds of the kinds that were there. -/
def seenA (o : Op) : Array Value := #[.bool false, .bool false, .bool (o.m != 0), .bool o.sd, .bool o.ok, .bool (decide (0 < o.rs.length)), .bool false, .bool false, .bool o.sp]
/-- What one option brings: the options in their box, what was seen in its row; or nothing. -/
def PartPost (r : Option Op) (B : Nat) (w : World) (en : Ending) (w' : World) : Prop := match r with
  | none => en = .returned (.bool false) ∧ Below (B + 1) w w'
  | some o => ∃ v, en = .returned (.bool true) ∧ At w' (B + 1) (OV o v) ∧ At w' (B + 2) (seenA o) ∧ w'.ownsRow (B + 3) 77 2 v o.rs.length (flatR o.rs) ∧ (o.rs = [] → v = .slice none 0 0) ∧ Below (B + 1) w w'
set_option maxRecDepth 100000 in
set_option maxHeartbeats 2000000 in
theorem rp_x (m c t ec : Int) (sd ok sp : Bool) (v : Value) (rs : List (Int × Int)) (B : Nat) (w : World) (hP : At w (B + 1) #[.int .i64 m, .int .i64 c, .int .i64 t, .int .i64 ec, .bool sd, .bool ok, .bool sp, v]) (hQ : At w (B + 2) #[.bool false, .bool false, .bool (m != 0), .bool sd, .bool ok, .bool (decide (0 < rs.length)), .bool false, .bool false, .bool sp]) (hown : w.ownsRow (B + 3) 77 2 v rs.length (flatR rs)) (hnil : rs = [] → v = .slice none 0 0) (b : ByteArray) (hs : b.size ≤ 38) (kind : Int) (h2 : ¬ kind = 2) (h3 : ¬ kind = 3) (h4 : ¬ kind = 4) (h8 : ¬ kind = 8) (h5 : ¬ kind = 5) :
    Calls Tryd.prog 65 #[.pointer (some ⟨B + 1, 0, none⟩), .int .i64 kind, .string b, .slice (some ⟨B + 2, 0, none⟩) 9 9] w fun en w' => PartPost (some ⟨m, c, t, ec, sd, ok, sp, rs⟩) B w en w' := by
  have hway : 8 < kind ∨ (¬ 8 < kind ∧ kind < 2) ∨ (¬ 8 < kind ∧ ¬ kind < 2 ∧ 5 < kind ∧ kind < 8) := by omega
  rcases hway with h | ⟨ha, hb⟩ | ⟨ha, hb, hc, hd⟩
  all_goals
    go_enter Tryd.func65, Tryd.ntmps65
    go_wp2
    go_ret
    exact ⟨v, rfl, hP, hQ, hown, hnil, Below.refl _ _⟩
set_option maxRecDepth 100000 in
set_option maxHeartbeats 2000000 in
theorem rp_2 (m c t ec : Int) (sd ok sp : Bool) (v : Value) (rs : List (Int × Int)) (B : Nat) (w : World) (hP : At w (B + 1) #[.int .i64 m, .int .i64 c, .int .i64 t, .int .i64 ec, .bool sd, .bool ok, .bool sp, v]) (hQ : At w (B + 2) #[.bool false, .bool false, .bool (m != 0), .bool sd, .bool ok, .bool (decide (0 < rs.length)), .bool false, .bool false, .bool sp]) (hown : w.ownsRow (B + 3) 77 2 v rs.length (flatR rs)) (hnil : rs = [] → v = .slice none 0 0) (b : ByteArray) (hs : b.size ≤ 38) :
    Calls Tryd.prog 65 #[.pointer (some ⟨B + 1, 0, none⟩), .int .i64 2, .string b, .slice (some ⟨B + 2, 0, none⟩) 9 9] w fun en w' => PartPost (stepO ⟨m, c, t, ec, sd, ok, sp, rs⟩ 2 b.data.toList) B w en w' := by
  have hlen : b.data.toList.length = b.size := toList_size b
  by_cases hm : m = 0
  · subst hm
    by_cases hl : b.size = 2
    · have hnum : numS b = numL b.data.toList := rfl
      have h2' : (b.size : Int) = 2 := by omega
      by_cases hx : numL b.data.toList = 0
      · have hst : stepO ⟨0, c, t, ec, sd, ok, sp, rs⟩ 2 b.data.toList = none := by simp [stepO, followsB, saysB, hx]
        rw [hst]
        obtain ⟨⟨c0, c1, c2, c3, c4, c5, c6, c7⟩, ⟨f0, f1, f2, f3, f4, f5, f6, f7⟩, hlP⟩ := hP.eight
        obtain ⟨⟨s0, s1, s2, s3, s4, s5, s6, s7, s8⟩, ⟨q0, q1, q2, q3, q4, q5, q6, q7, q8⟩, hlQ⟩ := hQ.nine
        have hr := fun W => num_any b W (by omega)
        rw [hnum, hx] at hr
        go_enter Tryd.func65, Tryd.ntmps65
        go_wp2_with fail
        refine (hr _).mono ?_
        rintro e w' ⟨rfl, rfl⟩
        go_wp2
        go_ret
        exact ⟨rfl, (((Below.refl (B + 1) w).setCell (p := ⟨B + 2, 2, none⟩) (by show B + 1 ≤ B + _; omega) _).setCell (p := ⟨B + 1, 0, none⟩) (by show B + 1 ≤ B + _; omega) _)⟩
      · have hst : stepO ⟨0, c, t, ec, sd, ok, sp, rs⟩ 2 b.data.toList = some ⟨numL b.data.toList, c, t, ec, sd, ok, sp, rs⟩ := by simp [stepO, followsB, saysB, takeO, hx, hlen, hl]
        rw [hst]
        have hr := fun W => num_any b W (by omega)
        rw [hnum] at hr
        have HX : Hid ((numL b.data.toList != 0) = true) := by show _ = _; simpa using hx
        generalize numL b.data.toList = X at *
        obtain ⟨⟨c0, c1, c2, c3, c4, c5, c6, c7⟩, ⟨f0, f1, f2, f3, f4, f5, f6, f7⟩, hlP⟩ := hP.eight
        obtain ⟨⟨s0, s1, s2, s3, s4, s5, s6, s7, s8⟩, ⟨q0, q1, q2, q3, q4, q5, q6, q7, q8⟩, hlQ⟩ := hQ.nine
        clear hst hnum
        go_enter Tryd.func65, Tryd.ntmps65
        go_wp2_with fail
        refine (hr _).mono ?_
        rintro e w' ⟨rfl, rfl⟩
        go_wp2
        go_ret
        exact ⟨v, by rw [HX.out]; rfl, (show At _ (B + 1) #[.int .i64 X, .int .i64 c, .int .i64 t, .int .i64 ec, .bool sd, .bool ok, .bool sp, v] from ((hP.keep (b := B + 2) (by omega) 2 (.bool true)).set 0 (.int .i64 X))), (show At _ (B + 2) #[.bool false, .bool false, .bool (X != 0), .bool sd, .bool ok, .bool (decide (0 < rs.length)), .bool false, .bool false, .bool sp] from by rw [HX.out]; exact ((hQ.set 2 (.bool true)).keep (b := B + 1) (by omega) 0 (.int .i64 X))), (own_setCell (own_setCell hown (B + 2) 2 _ (by omega)) (B + 1) 0 _ (by omega)), hnil, (((Below.refl (B + 1) w).setCell (p := ⟨B + 2, 2, none⟩) (by show B + 1 ≤ B + _; omega) _).setCell (p := ⟨B + 1, 0, none⟩) (by show B + 1 ≤ B + _; omega) _)⟩
    · have hst : stepO ⟨0, c, t, ec, sd, ok, sp, rs⟩ 2 b.data.toList = none := by simp [stepO, followsB, hlen, hl]
      rw [hst]
      have hl' : ¬ (b.size : Int) = 2 := by omega
      have hl2 : ((b.size : Int) != 2) = true := by simpa using hl'
      obtain ⟨⟨c0, c1, c2, c3, c4, c5, c6, c7⟩, ⟨f0, f1, f2, f3, f4, f5, f6, f7⟩, hlP⟩ := hP.eight
      obtain ⟨⟨s0, s1, s2, s3, s4, s5, s6, s7, s8⟩, ⟨q0, q1, q2, q3, q4, q5, q6, q7, q8⟩, hlQ⟩ := hQ.nine
      go_enter Tryd.func65, Tryd.ntmps65
      go_wp2
      go_ret
      exact ⟨rfl, ((Below.refl (B + 1) w).setCell (p := ⟨B + 2, 2, none⟩) (by show B + 1 ≤ B + _; omega) _)⟩
  · have hst : stepO ⟨m, c, t, ec, sd, ok, sp, rs⟩ 2 b.data.toList = none := by simp [stepO, followsB, hm]
    have hm' : (m != 0) = true := by simpa using hm
    rw [hst]
    rw [hm'] at hQ
    obtain ⟨⟨c0, c1, c2, c3, c4, c5, c6, c7⟩, ⟨f0, f1, f2, f3, f4, f5, f6, f7⟩, hlP⟩ := hP.eight
    obtain ⟨⟨s0, s1, s2, s3, s4, s5, s6, s7, s8⟩, ⟨q0, q1, q2, q3, q4, q5, q6, q7, q8⟩, hlQ⟩ := hQ.nine
    go_enter Tryd.func65, Tryd.ntmps65
    go_wp2
    go_ret
    exact ⟨rfl, Below.refl _ _⟩
set_option maxRecDepth 100000 in
set_option maxHeartbeats 2000000 in
theorem rp_3 (m c t ec : Int) (sd ok sp : Bool) (v : Value) (rs : List (Int × Int)) (B : Nat) (w : World) (hP : At w (B + 1) #[.int .i64 m, .int .i64 c, .int .i64 t, .int .i64 ec, .bool sd, .bool ok, .bool sp, v]) (hQ : At w (B + 2) #[.bool false, .bool false, .bool (m != 0), .bool sd, .bool ok, .bool (decide (0 < rs.length)), .bool false, .bool false, .bool sp]) (hown : w.ownsRow (B + 3) 77 2 v rs.length (flatR rs)) (hnil : rs = [] → v = .slice none 0 0) (b : ByteArray) (hs : b.size ≤ 38) :
    Calls Tryd.prog 65 #[.pointer (some ⟨B + 1, 0, none⟩), .int .i64 3, .string b, .slice (some ⟨B + 2, 0, none⟩) 9 9] w fun en w' => PartPost (stepO ⟨m, c, t, ec, sd, ok, sp, rs⟩ 3 b.data.toList) B w en w' := by
  have hlen : b.data.toList.length = b.size := toList_size b
  rcases Bool.eq_false_or_eq_true sd with hh | hh
  all_goals subst hh
  · have hst : stepO ⟨m, c, t, ec, true, ok, sp, rs⟩ 3 b.data.toList = none := by simp [stepO, followsB]
    rw [hst]
    obtain ⟨⟨c0, c1, c2, c3, c4, c5, c6, c7⟩, ⟨f0, f1, f2, f3, f4, f5, f6, f7⟩, hlP⟩ := hP.eight
    obtain ⟨⟨s0, s1, s2, s3, s4, s5, s6, s7, s8⟩, ⟨q0, q1, q2, q3, q4, q5, q6, q7, q8⟩, hlQ⟩ := hQ.nine
    go_enter Tryd.func65, Tryd.ntmps65
    go_wp2
    go_ret
    exact ⟨rfl, Below.refl _ _⟩
  · by_cases hl : b.size = 1
    · obtain ⟨y, rfl⟩ : ∃ y, b = ⟨#[y]⟩ := by
        obtain ⟨⟨l⟩⟩ := b
        match l, hl with
        | [y], _ => exact ⟨y, rfl⟩
      have hst : stepO ⟨m, c, t, ec, false, ok, sp, rs⟩ 3 [y] = some ⟨m, (y.toNat : Int), t, ec, true, ok, sp, rs⟩ := by simp [stepO, followsB, saysB, takeO, numL]
      show Calls _ _ _ _ fun en w' => PartPost (stepO _ 3 [y]) B w en w'
      rw [hst]
      have hsz : (⟨#[y]⟩ : ByteArray).size = 1 := rfl
      have hiy : (⟨#[y]⟩ : ByteArray)[0] = y := rfl
      have hyb : (y.toNat : Int) < 256 := by have := y.toNat_lt; omega
      obtain ⟨⟨c0, c1, c2, c3, c4, c5, c6, c7⟩, ⟨f0, f1, f2, f3, f4, f5, f6, f7⟩, hlP⟩ := hP.eight
      obtain ⟨⟨s0, s1, s2, s3, s4, s5, s6, s7, s8⟩, ⟨q0, q1, q2, q3, q4, q5, q6, q7, q8⟩, hlQ⟩ := hQ.nine
      go_enter Tryd.func65, Tryd.ntmps65
      go_wp2
      go_ret
      exact ⟨v, rfl, (show At _ (B + 1) #[.int .i64 m, .int .i64 (y.toNat : Int), .int .i64 t, .int .i64 ec, .bool true, .bool ok, .bool sp, v] from (((hP.keep (b := B + 2) (by omega) 3 (.bool true)).set 1 (.int .i64 (y.toNat : Int))).set 4 (.bool true))), (show At _ (B + 2) #[.bool false, .bool false, .bool (m != 0), .bool true, .bool ok, .bool (decide (0 < rs.length)), .bool false, .bool false, .bool sp] from (((hQ.set 3 (.bool true)).keep (b := B + 1) (by omega) 1 (.int .i64 (y.toNat : Int))).keep (b := B + 1) (by omega) 4 (.bool true))), (own_setCell (own_setCell (own_setCell hown (B + 2) 3 _ (by omega)) (B + 1) 1 _ (by omega)) (B + 1) 4 _ (by omega)), hnil, ((((Below.refl (B + 1) w).setCell (p := ⟨B + 2, 3, none⟩) (by show B + 1 ≤ B + _; omega) _).setCell (p := ⟨B + 1, 1, none⟩) (by show B + 1 ≤ B + _; omega) _).setCell (p := ⟨B + 1, 4, none⟩) (by show B + 1 ≤ B + _; omega) _)⟩
    · have hst : stepO ⟨m, c, t, ec, false, ok, sp, rs⟩ 3 b.data.toList = none := by simp [stepO, followsB, hlen, hl]
      rw [hst]
      have hl2 : ((b.size : Int) != 1) = true := by simp; omega
      obtain ⟨⟨c0, c1, c2, c3, c4, c5, c6, c7⟩, ⟨f0, f1, f2, f3, f4, f5, f6, f7⟩, hlP⟩ := hP.eight
      obtain ⟨⟨s0, s1, s2, s3, s4, s5, s6, s7, s8⟩, ⟨q0, q1, q2, q3, q4, q5, q6, q7, q8⟩, hlQ⟩ := hQ.nine
      go_enter Tryd.func65, Tryd.ntmps65
      go_wp2
      go_ret
      exact ⟨rfl, ((Below.refl (B + 1) w).setCell (p := ⟨B + 2, 3, none⟩) (by show B + 1 ≤ B + _; omega) _)⟩
set_option maxRecDepth 100000 in
set_option maxHeartbeats 2000000 in
theorem rp_4 (m c t ec : Int) (sd ok sp : Bool) (v : Value) (rs : List (Int × Int)) (B : Nat) (w : World) (hP : At w (B + 1) #[.int .i64 m, .int .i64 c, .int .i64 t, .int .i64 ec, .bool sd, .bool ok, .bool sp, v]) (hQ : At w (B + 2) #[.bool false, .bool false, .bool (m != 0), .bool sd, .bool ok, .bool (decide (0 < rs.length)), .bool false, .bool false, .bool sp]) (hown : w.ownsRow (B + 3) 77 2 v rs.length (flatR rs)) (hnil : rs = [] → v = .slice none 0 0) (b : ByteArray) (hs : b.size ≤ 38) :
    Calls Tryd.prog 65 #[.pointer (some ⟨B + 1, 0, none⟩), .int .i64 4, .string b, .slice (some ⟨B + 2, 0, none⟩) 9 9] w fun en w' => PartPost (stepO ⟨m, c, t, ec, sd, ok, sp, rs⟩ 4 b.data.toList) B w en w' := by
  have hlen : b.data.toList.length = b.size := toList_size b
  rcases Bool.eq_false_or_eq_true ok with hh | hh
  all_goals subst hh
  · have hst : stepO ⟨m, c, t, ec, sd, true, sp, rs⟩ 4 b.data.toList = none := by simp [stepO, followsB]
    rw [hst]
    obtain ⟨⟨c0, c1, c2, c3, c4, c5, c6, c7⟩, ⟨f0, f1, f2, f3, f4, f5, f6, f7⟩, hlP⟩ := hP.eight
    obtain ⟨⟨s0, s1, s2, s3, s4, s5, s6, s7, s8⟩, ⟨q0, q1, q2, q3, q4, q5, q6, q7, q8⟩, hlQ⟩ := hQ.nine
    go_enter Tryd.func65, Tryd.ntmps65
    go_wp2
    go_ret
    exact ⟨rfl, Below.refl _ _⟩
  · by_cases hl : b.size = 0
    · obtain rfl : b = ⟨#[]⟩ := by
        obtain ⟨⟨l⟩⟩ := b
        match l, hl with
        | [], _ => rfl
      have hst : stepO ⟨m, c, t, ec, sd, false, sp, rs⟩ 4 [] = some ⟨m, c, t, ec, sd, true, sp, rs⟩ := by simp [stepO, followsB, saysB, takeO]
      show Calls _ _ _ _ fun en w' => PartPost (stepO _ 4 []) B w en w'
      rw [hst]
      obtain ⟨⟨c0, c1, c2, c3, c4, c5, c6, c7⟩, ⟨f0, f1, f2, f3, f4, f5, f6, f7⟩, hlP⟩ := hP.eight
      obtain ⟨⟨s0, s1, s2, s3, s4, s5, s6, s7, s8⟩, ⟨q0, q1, q2, q3, q4, q5, q6, q7, q8⟩, hlQ⟩ := hQ.nine
      go_enter Tryd.func65, Tryd.ntmps65
      go_wp2
      go_ret
      exact ⟨v, rfl, (show At _ (B + 1) #[.int .i64 m, .int .i64 c, .int .i64 t, .int .i64 ec, .bool sd, .bool true, .bool sp, v] from ((hP.keep (b := B + 2) (by omega) 4 (.bool true)).set 5 (.bool true))), (show At _ (B + 2) #[.bool false, .bool false, .bool (m != 0), .bool sd, .bool true, .bool (decide (0 < rs.length)), .bool false, .bool false, .bool sp] from ((hQ.set 4 (.bool true)).keep (b := B + 1) (by omega) 5 (.bool true))), (own_setCell (own_setCell hown (B + 2) 4 _ (by omega)) (B + 1) 5 _ (by omega)), hnil, (((Below.refl (B + 1) w).setCell (p := ⟨B + 2, 4, none⟩) (by show B + 1 ≤ B + _; omega) _).setCell (p := ⟨B + 1, 5, none⟩) (by show B + 1 ≤ B + _; omega) _)⟩
    · have hst : stepO ⟨m, c, t, ec, sd, false, sp, rs⟩ 4 b.data.toList = none := by simp [stepO, followsB, hlen, hl]
      rw [hst]
      have hne : b.toList.isEmpty = false := ne_empty' b (by omega)
      have hne2 : ¬ b = ⟨#[]⟩ := fun e => hl (by rw [e]; rfl)
      obtain ⟨⟨c0, c1, c2, c3, c4, c5, c6, c7⟩, ⟨f0, f1, f2, f3, f4, f5, f6, f7⟩, hlP⟩ := hP.eight
      obtain ⟨⟨s0, s1, s2, s3, s4, s5, s6, s7, s8⟩, ⟨q0, q1, q2, q3, q4, q5, q6, q7, q8⟩, hlQ⟩ := hQ.nine
      go_enter Tryd.func65, Tryd.ntmps65
      go_wp2
      go_ret
      exact ⟨by first | rfl | simp [hne2] | simp [hne], (((Below.refl (B + 1) w).setCell (p := ⟨B + 2, 4, none⟩) (by show B + 1 ≤ B + _; omega) _).setCell (p := ⟨B + 1, 5, none⟩) (by show B + 1 ≤ B + _; omega) _)⟩
set_option maxRecDepth 100000 in
set_option maxHeartbeats 2000000 in
theorem rp_8 (m c t ec : Int) (sd ok sp : Bool) (v : Value) (rs : List (Int × Int)) (B : Nat) (w : World) (hP : At w (B + 1) #[.int .i64 m, .int .i64 c, .int .i64 t, .int .i64 ec, .bool sd, .bool ok, .bool sp, v]) (hQ : At w (B + 2) #[.bool false, .bool false, .bool (m != 0), .bool sd, .bool ok, .bool (decide (0 < rs.length)), .bool false, .bool false, .bool sp]) (hown : w.ownsRow (B + 3) 77 2 v rs.length (flatR rs)) (hnil : rs = [] → v = .slice none 0 0) (b : ByteArray) (hs : b.size ≤ 38) :
    Calls Tryd.prog 65 #[.pointer (some ⟨B + 1, 0, none⟩), .int .i64 8, .string b, .slice (some ⟨B + 2, 0, none⟩) 9 9] w fun en w' => PartPost (stepO ⟨m, c, t, ec, sd, ok, sp, rs⟩ 8 b.data.toList) B w en w' := by
  have hlen : b.data.toList.length = b.size := toList_size b
  rcases Bool.eq_false_or_eq_true sp with hh | hh
  all_goals subst hh
  · have hst : stepO ⟨m, c, t, ec, sd, ok, true, rs⟩ 8 b.data.toList = none := by simp [stepO, followsB]
    rw [hst]
    obtain ⟨⟨c0, c1, c2, c3, c4, c5, c6, c7⟩, ⟨f0, f1, f2, f3, f4, f5, f6, f7⟩, hlP⟩ := hP.eight
    obtain ⟨⟨s0, s1, s2, s3, s4, s5, s6, s7, s8⟩, ⟨q0, q1, q2, q3, q4, q5, q6, q7, q8⟩, hlQ⟩ := hQ.nine
    go_enter Tryd.func65, Tryd.ntmps65
    go_wp2
    go_ret
    exact ⟨rfl, Below.refl _ _⟩
  · by_cases hl : b.size = 8
    · have hst : stepO ⟨m, c, t, ec, sd, ok, false, rs⟩ 8 b.data.toList = some ⟨m, c, numL (b.data.toList.take 4), numL (b.data.toList.drop 4), sd, ok, true, rs⟩ := by simp [stepO, followsB, saysB, takeO, hlen, hl]
      rw [hst]
      have h2' : (b.size : Int) = 8 := by omega
      have e1 : numS (b.extract 0 4) = numL (b.data.toList.take 4) := by
        unfold numS; rw [ext_list b 0 4 (by omega)]; simp
      have e2 : numS (b.extract 4 b.size) = numL (b.data.toList.drop 4) := by
        unfold numS; rw [ext_list b 4 b.size (by omega), List.take_of_length_le (by rw [List.length_drop, hlen]; omega)]
      have hr1 := fun W => num_any (b.extract 0 4) W (by rw [ByteArray.size_extract]; omega)
      have hr2 := fun W => num_any (b.extract 4 b.size) W (by rw [ByteArray.size_extract]; omega)
      rw [e1] at hr1
      rw [e2] at hr2
      rw [hl] at hr2
      generalize numL (b.data.toList.take 4) = X at *
      generalize numL (b.data.toList.drop 4) = Y at *
      have HH1 : Hid (∀ W, Calls Tryd.prog 41 #[.string (b.extract 0 4)] W fun e w' => e = .returned (.int .i64 X) ∧ w' = W) := hr1
      have HH2 : Hid (∀ W, Calls Tryd.prog 41 #[.string (b.extract 4 8)] W fun e w' => e = .returned (.int .i64 Y) ∧ w' = W) := hr2
      clear e1 e2 hr1 hr2 hst
      obtain ⟨⟨c0, c1, c2, c3, c4, c5, c6, c7⟩, ⟨f0, f1, f2, f3, f4, f5, f6, f7⟩, hlP⟩ := hP.eight
      obtain ⟨⟨s0, s1, s2, s3, s4, s5, s6, s7, s8⟩, ⟨q0, q1, q2, q3, q4, q5, q6, q7, q8⟩, hlQ⟩ := hQ.nine
      go_enter Tryd.func65, Tryd.ntmps65
      go_wp2_with fail
      refine (HH1.out _).mono ?_
      rintro e w' ⟨rfl, rfl⟩
      go_wp2_with fail
      refine (HH2.out _).mono ?_
      rintro e w' ⟨rfl, rfl⟩
      go_wp2
      go_ret
      exact ⟨v, rfl, (show At _ (B + 1) #[.int .i64 m, .int .i64 c, .int .i64 X, .int .i64 Y, .bool sd, .bool ok, .bool true, v] from ((((hP.keep (b := B + 2) (by omega) 8 (.bool true)).set 2 (.int .i64 X)).set 3 (.int .i64 Y)).set 6 (.bool true))), (show At _ (B + 2) #[.bool false, .bool false, .bool (m != 0), .bool sd, .bool ok, .bool (decide (0 < rs.length)), .bool false, .bool false, .bool true] from ((((hQ.set 8 (.bool true)).keep (b := B + 1) (by omega) 2 (.int .i64 X)).keep (b := B + 1) (by omega) 3 (.int .i64 Y)).keep (b := B + 1) (by omega) 6 (.bool true))), (own_setCell (own_setCell (own_setCell (own_setCell hown (B + 2) 8 _ (by omega)) (B + 1) 2 _ (by omega)) (B + 1) 3 _ (by omega)) (B + 1) 6 _ (by omega)), hnil, (((((Below.refl (B + 1) w).setCell (p := ⟨B + 2, 8, none⟩) (by show B + 1 ≤ B + _; omega) _).setCell (p := ⟨B + 1, 2, none⟩) (by show B + 1 ≤ B + _; omega) _).setCell (p := ⟨B + 1, 3, none⟩) (by show B + 1 ≤ B + _; omega) _).setCell (p := ⟨B + 1, 6, none⟩) (by show B + 1 ≤ B + _; omega) _)⟩
    · have hst : stepO ⟨m, c, t, ec, sd, ok, false, rs⟩ 8 b.data.toList = none := by simp [stepO, followsB, hlen, hl]
      rw [hst]
      have hl2 : ((b.size : Int) != 8) = true := by simp; omega
      obtain ⟨⟨c0, c1, c2, c3, c4, c5, c6, c7⟩, ⟨f0, f1, f2, f3, f4, f5, f6, f7⟩, hlP⟩ := hP.eight
      obtain ⟨⟨s0, s1, s2, s3, s4, s5, s6, s7, s8⟩, ⟨q0, q1, q2, q3, q4, q5, q6, q7, q8⟩, hlQ⟩ := hQ.nine
      go_enter Tryd.func65, Tryd.ntmps65
      go_wp2
      go_ret
      exact ⟨rfl, ((Below.refl (B + 1) w).setCell (p := ⟨B + 2, 8, none⟩) (by show B + 1 ≤ B + _; omega) _)⟩
end Go.Proofs.YtecoknenkjgmjabDoor
