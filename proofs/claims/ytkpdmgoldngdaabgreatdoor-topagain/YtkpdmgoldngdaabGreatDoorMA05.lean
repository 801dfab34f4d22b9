/- the texts Ol, Om, On, Pb, in part, merged by program -/
import Derived.Test.YtkpdmgoldngdaabGreatDoorProg
import Derived.Test.YtkpdmgoldngdaabGreatDoorRows
import Derived.BigRegion
import Derived.WalkKit
import Derived.WalkSpells
import Derived.RegionTactic
import Derived.Below
import Derived.Laws.OwnMore
import Derived.Laws.AppendOwn
import Derived.Laws.AppendOwnNone
import Derived.Deep.LoopGhost
import Derived.Deep.RegionHeld3
import Derived.Deep.QuietTactic
import Derived.BigQuiet
import Derived.WalkSmall
import Derived.Laws.StructEq
import Derived.Shelf.Strings.Repeat
import Derived.Deep.Light
import Derived.Test.YtkpdmgoldngdaabGreatDoorMA01
import Derived.Test.YtkpdmgoldngdaabGreatDoorMA04
namespace Go.Proofs.YtkpdmgoldngdaabGreatDoor
open Go.RowKit
set_option maxRecDepth 100000

theorem two_news {X : World} {g : Nat} {x y : Int} (h0 : X.cell? ⟨g, 0, none⟩ = some (.int .i64 x)) (h1 : X.cell? ⟨g, 1, none⟩ = some (.int .i64 y)) : ∀ j u, [Value.int .i64 x, .int .i64 y][j]? = some u → X.cell? ((⟨g, 0, none⟩ : Addr).add j) = some u := by
  intro j u hu
  have hj : j < 2 := (List.getElem?_eq_some_iff.1 hu).1
  obtain rfl | rfl : j = 0 ∨ j = 1 := by omega
  · obtain rfl := Option.some.inj hu; exact h0
  · obtain rfl := Option.some.inj hu; exact h1
theorem toList_size (b : ByteArray) : b.data.toList.length = b.size := by simp
set_option maxRecDepth 100000 in
set_option maxHeartbeats 2000000 in
theorem read_3 (m c t ec : Int) (sd ok sp : Bool) (a : Option Addr) (cap : Nat) (rs : List (Int × Int)) (R0 : Nat) (w : World) (hown : w.ownsRow R0 97 2 (.slice a rs.length cap) rs.length (flatR rs)) (b : ByteArray) (hs : b.size = 1) :
    Calls Tryz.prog 106 #[.agg #[.int .i64 m, .int .i64 c, .int .i64 t, .int .i64 ec, .bool sd, .bool ok, .bool sp, (.slice a rs.length cap)], .int .i64 3, .string b] w fun en w' => en = .returned (.tuple #[.agg #[.int .i64 m, .int .i64 ((numL ((b.data.toList.drop 0).take 1))), .int .i64 t, .int .i64 ec, .bool true, .bool ok, .bool sp, .slice a rs.length cap], .bool true]) ∧ w'.ownsRow R0 97 2 (.slice a rs.length cap) rs.length (flatR rs) ∧ Below w.heap.size w w' := by
  have hb1 := bel1 w (.cells #[.int .i64 m, .int .i64 c, .int .i64 t, .int .i64 ec, .bool sd, .bool ok, .bool sp, (.slice a rs.length cap)] 33)
  have hb2 := bel1 (w.alloc (.cells #[.int .i64 m, .int .i64 c, .int .i64 t, .int .i64 ec, .bool sd, .bool ok, .bool sp, (.slice a rs.length cap)] 33)) (.cells #[.int .i64 0, .int .i64 0, .int .i64 0, .int .i64 0, .bool false, .bool false, .bool false, .slice none 0 0] 33)
  have hA := (At.box w #[.int .i64 m, .int .i64 c, .int .i64 t, .int .i64 ec, .bool sd, .bool ok, .bool sp, (.slice a rs.length cap)] 33).later hb2
  have hR := At.box2 w (.cells #[.int .i64 m, .int .i64 c, .int .i64 t, .int .i64 ec, .bool sd, .bool ok, .bool sp, (.slice a rs.length cap)] 33) #[.int .i64 0, .int .i64 0, .int .i64 0, .int .i64 0, .bool false, .bool false, .bool false, .slice none 0 0] 33
  have hl := bt hb1 hb2
  obtain ⟨X0, hn0⟩ : ∃ x, x = numL ((b.data.toList.drop 0).take 1) := ⟨_, rfl⟩
  have hg0 : ∀ W, Calls Tryz.prog 122 #[.string b, .int .i64 0, .int .i64 1] W fun e w' => e = .returned (.int .i64 X0) ∧ Below W.heap.size W w' := fun W => by
    have := get_o b 0 1 W (by unfold maxLen; omega)
    rw [show getV b (0 : Int) (1 : Int) = numL ((b.data.toList.drop 0).take 1) from getV_t b 0 1 (by decide) (by decide) (by omega), ← hn0] at this
    exact this
  rw [← hn0]
  have HN0 : Hid (X0 = numL ((b.data.toList.drop 0).take 1)) := hn0
  clear hn0
  obtain ⟨⟨c0, c1, c2, c3, c4, c5, c6, c7⟩, -, -⟩ := hA.eight
  go_enter Tryz.func106, Tryz.ntmps106
  go_wp2_with fail
  refine (hg0 _).mono ?_
  rintro en w1 ⟨rfl, hb⟩
  replace hl := bt hl hb
  replace hA := hA.later hb
  replace hR := hR.later hb
  clear c0 c1 c2 c3 c4 c5 c6 c7 hb hb1 hb2
  obtain ⟨⟨c0, c1, c2, c3, c4, c5, c6, c7⟩, ⟨f0, f1, f2, f3, f4, f5, f6, f7⟩, -⟩ := hA.eight
  obtain ⟨⟨r0, r1, r2, r3, r4, r5, r6, r7⟩, ⟨g0, g1, g2, g3, g4, g5, g6, g7⟩, -⟩ := hR.eight
  go_wp2
  have hBB := below8 ((hl.setCell (p := ⟨w.heap.size, 4, none⟩) (Nat.le_refl _) (.bool true)).setCell (p := ⟨w.heap.size, 1, none⟩) (Nat.le_refl _) (.int .i64 X0)) (Nat.le_succ _) (.int .i64 m) (.int .i64 X0) (.int .i64 t) (.int .i64 ec) (.bool true) (.bool ok) (.bool sp) (.slice a rs.length cap)
  exact bodyPost_ret (v := .tuple #[.agg #[.int .i64 m, .int .i64 X0, .int .i64 t, .int .i64 ec, .bool true, .bool ok, .bool sp, .slice a rs.length cap], .bool true]) (by simp [results, Tryz.results106, go_sem, r0, r1, r2, r3, r4, r5, r6, r7]) rfl ⟨rfl, own_later hown hBB, hBB⟩
set_option maxRecDepth 100000 in
set_option maxHeartbeats 2000000 in
theorem read_4 (m c t ec : Int) (sd ok sp : Bool) (a : Option Addr) (cap : Nat) (rs : List (Int × Int)) (R0 : Nat) (w : World) (hown : w.ownsRow R0 97 2 (.slice a rs.length cap) rs.length (flatR rs)) (b : ByteArray) :
    Calls Tryz.prog 106 #[.agg #[.int .i64 m, .int .i64 c, .int .i64 t, .int .i64 ec, .bool sd, .bool ok, .bool sp, (.slice a rs.length cap)], .int .i64 4, .string b] w fun en w' => en = .returned (.tuple #[.agg #[.int .i64 m, .int .i64 c, .int .i64 t, .int .i64 ec, .bool sd, .bool true, .bool sp, .slice a rs.length cap], .bool true]) ∧ w'.ownsRow R0 97 2 (.slice a rs.length cap) rs.length (flatR rs) ∧ Below w.heap.size w w' := by
  have hb1 := bel1 w (.cells #[.int .i64 m, .int .i64 c, .int .i64 t, .int .i64 ec, .bool sd, .bool ok, .bool sp, (.slice a rs.length cap)] 33)
  have hb2 := bel1 (w.alloc (.cells #[.int .i64 m, .int .i64 c, .int .i64 t, .int .i64 ec, .bool sd, .bool ok, .bool sp, (.slice a rs.length cap)] 33)) (.cells #[.int .i64 0, .int .i64 0, .int .i64 0, .int .i64 0, .bool false, .bool false, .bool false, .slice none 0 0] 33)
  have hA := (At.box w #[.int .i64 m, .int .i64 c, .int .i64 t, .int .i64 ec, .bool sd, .bool ok, .bool sp, (.slice a rs.length cap)] 33).later hb2
  have hR := At.box2 w (.cells #[.int .i64 m, .int .i64 c, .int .i64 t, .int .i64 ec, .bool sd, .bool ok, .bool sp, (.slice a rs.length cap)] 33) #[.int .i64 0, .int .i64 0, .int .i64 0, .int .i64 0, .bool false, .bool false, .bool false, .slice none 0 0] 33
  have hl := bt hb1 hb2
  obtain ⟨⟨c0, c1, c2, c3, c4, c5, c6, c7⟩, ⟨f0, f1, f2, f3, f4, f5, f6, f7⟩, -⟩ := hA.eight
  obtain ⟨⟨r0, r1, r2, r3, r4, r5, r6, r7⟩, ⟨g0, g1, g2, g3, g4, g5, g6, g7⟩, -⟩ := hR.eight
  go_enter Tryz.func106, Tryz.ntmps106
  go_wp2
  have hBB := bt (bel1 w (.cells (#[.int .i64 m, .int .i64 c, .int .i64 t, .int .i64 ec, .bool sd, .bool true, .bool sp, .slice a rs.length cap]) 33)) (bel1 _ (.cells (#[.int .i64 m, .int .i64 c, .int .i64 t, .int .i64 ec, .bool sd, .bool true, .bool sp, .slice a rs.length cap]) 33))
  exact bodyPost_ret (v := .tuple #[.agg #[.int .i64 m, .int .i64 c, .int .i64 t, .int .i64 ec, .bool sd, .bool true, .bool sp, .slice a rs.length cap], .bool true]) (by simp [results, Tryz.results106, go_sem]) rfl ⟨rfl, own_later hown hBB, hBB⟩
set_option maxRecDepth 100000 in
set_option maxHeartbeats 2000000 in
theorem read_8 (m c t ec : Int) (sd ok sp : Bool) (a : Option Addr) (cap : Nat) (rs : List (Int × Int)) (R0 : Nat) (w : World) (hown : w.ownsRow R0 97 2 (.slice a rs.length cap) rs.length (flatR rs)) (b : ByteArray) (hs : b.size = 8) :
    Calls Tryz.prog 106 #[.agg #[.int .i64 m, .int .i64 c, .int .i64 t, .int .i64 ec, .bool sd, .bool ok, .bool sp, (.slice a rs.length cap)], .int .i64 8, .string b] w fun en w' => en = .returned (.tuple #[.agg #[.int .i64 m, .int .i64 c, .int .i64 ((numL ((b.data.toList.drop 0).take 4))), .int .i64 ((numL ((b.data.toList.drop 4).take 4))), .bool sd, .bool ok, .bool true, .slice a rs.length cap], .bool true]) ∧ w'.ownsRow R0 97 2 (.slice a rs.length cap) rs.length (flatR rs) ∧ Below w.heap.size w w' := by
  have hb1 := bel1 w (.cells #[.int .i64 m, .int .i64 c, .int .i64 t, .int .i64 ec, .bool sd, .bool ok, .bool sp, (.slice a rs.length cap)] 33)
  have hb2 := bel1 (w.alloc (.cells #[.int .i64 m, .int .i64 c, .int .i64 t, .int .i64 ec, .bool sd, .bool ok, .bool sp, (.slice a rs.length cap)] 33)) (.cells #[.int .i64 0, .int .i64 0, .int .i64 0, .int .i64 0, .bool false, .bool false, .bool false, .slice none 0 0] 33)
  have hA := (At.box w #[.int .i64 m, .int .i64 c, .int .i64 t, .int .i64 ec, .bool sd, .bool ok, .bool sp, (.slice a rs.length cap)] 33).later hb2
  have hR := At.box2 w (.cells #[.int .i64 m, .int .i64 c, .int .i64 t, .int .i64 ec, .bool sd, .bool ok, .bool sp, (.slice a rs.length cap)] 33) #[.int .i64 0, .int .i64 0, .int .i64 0, .int .i64 0, .bool false, .bool false, .bool false, .slice none 0 0] 33
  have hl := bt hb1 hb2
  obtain ⟨X0, hn0⟩ : ∃ x, x = numL ((b.data.toList.drop 0).take 4) := ⟨_, rfl⟩
  have hg0 : ∀ W, Calls Tryz.prog 122 #[.string b, .int .i64 0, .int .i64 4] W fun e w' => e = .returned (.int .i64 X0) ∧ Below W.heap.size W w' := fun W => by
    have := get_o b 0 4 W (by unfold maxLen; omega)
    rw [show getV b (0 : Int) (4 : Int) = numL ((b.data.toList.drop 0).take 4) from getV_t b 0 4 (by decide) (by decide) (by omega), ← hn0] at this
    exact this
  obtain ⟨X1, hn1⟩ : ∃ x, x = numL ((b.data.toList.drop 4).take 4) := ⟨_, rfl⟩
  have hg1 : ∀ W, Calls Tryz.prog 122 #[.string b, .int .i64 4, .int .i64 4] W fun e w' => e = .returned (.int .i64 X1) ∧ Below W.heap.size W w' := fun W => by
    have := get_o b 4 4 W (by unfold maxLen; omega)
    rw [show getV b (4 : Int) (4 : Int) = numL ((b.data.toList.drop 4).take 4) from getV_t b 4 4 (by decide) (by decide) (by omega), ← hn1] at this
    exact this
  rw [← hn0, ← hn1]
  clear hn0 hn1
  obtain ⟨⟨c0, c1, c2, c3, c4, c5, c6, c7⟩, -, -⟩ := hA.eight
  go_enter Tryz.func106, Tryz.ntmps106
  go_wp2_with fail
  refine (hg0 _).mono ?_
  rintro en w1 ⟨rfl, hb⟩
  replace hl := bt hl hb
  replace hA := hA.later hb
  replace hR := hR.later hb
  clear c0 c1 c2 c3 c4 c5 c6 c7 hb hb1 hb2
  go_wp2_with fail
  refine (hg1 _).mono ?_
  rintro en w2 ⟨rfl, hb⟩
  replace hl := bt hl hb
  replace hA := hA.later hb
  replace hR := hR.later hb
  clear hb
  obtain ⟨⟨c0, c1, c2, c3, c4, c5, c6, c7⟩, ⟨f0, f1, f2, f3, f4, f5, f6, f7⟩, -⟩ := hA.eight
  obtain ⟨⟨r0, r1, r2, r3, r4, r5, r6, r7⟩, ⟨g0, g1, g2, g3, g4, g5, g6, g7⟩, -⟩ := hR.eight
  go_wp2
  have hBB := below8 (((hl.setCell (p := ⟨w.heap.size, 6, none⟩) (Nat.le_refl _) (.bool true)).setCell (p := ⟨w.heap.size, 2, none⟩) (Nat.le_refl _) (.int .i64 X0)).setCell (p := ⟨w.heap.size, 3, none⟩) (Nat.le_refl _) (.int .i64 X1)) (Nat.le_succ _) (.int .i64 m) (.int .i64 c) (.int .i64 X0) (.int .i64 X1) (.bool sd) (.bool ok) (.bool true) (.slice a rs.length cap)
  exact bodyPost_ret (v := .tuple #[.agg #[.int .i64 m, .int .i64 c, .int .i64 X0, .int .i64 X1, .bool sd, .bool ok, .bool true, .slice a rs.length cap], .bool true]) (by simp [results, Tryz.results106, go_sem, r0, r1, r2, r3, r4, r5, r6, r7]) rfl ⟨rfl, own_later hown hBB, hBB⟩
set_option maxRecDepth 100000 in
set_option maxHeartbeats 2000000 in
theorem read_x (m c t ec : Int) (sd ok sp : Bool) (a : Option Addr) (cap : Nat) (rs : List (Int × Int)) (R0 : Nat) (w : World) (hown : w.ownsRow R0 97 2 (.slice a rs.length cap) rs.length (flatR rs)) (b : ByteArray) (kind : Int) (h2 : ¬ kind = 2) (h3 : ¬ kind = 3) (h4 : ¬ kind = 4) (h8 : ¬ kind = 8) (h5 : ¬ kind = 5) :
    Calls Tryz.prog 106 #[.agg #[.int .i64 m, .int .i64 c, .int .i64 t, .int .i64 ec, .bool sd, .bool ok, .bool sp, (.slice a rs.length cap)], .int .i64 kind, .string b] w fun en w' => en = .returned (.tuple #[.agg #[.int .i64 m, .int .i64 c, .int .i64 t, .int .i64 ec, .bool sd, .bool ok, .bool sp, .slice a rs.length cap], .bool true]) ∧ w'.ownsRow R0 97 2 (.slice a rs.length cap) rs.length (flatR rs) ∧ Below w.heap.size w w' := by
  have hb1 := bel1 w (.cells #[.int .i64 m, .int .i64 c, .int .i64 t, .int .i64 ec, .bool sd, .bool ok, .bool sp, (.slice a rs.length cap)] 33)
  have hb2 := bel1 (w.alloc (.cells #[.int .i64 m, .int .i64 c, .int .i64 t, .int .i64 ec, .bool sd, .bool ok, .bool sp, (.slice a rs.length cap)] 33)) (.cells #[.int .i64 0, .int .i64 0, .int .i64 0, .int .i64 0, .bool false, .bool false, .bool false, .slice none 0 0] 33)
  have hA := (At.box w #[.int .i64 m, .int .i64 c, .int .i64 t, .int .i64 ec, .bool sd, .bool ok, .bool sp, (.slice a rs.length cap)] 33).later hb2
  have hR := At.box2 w (.cells #[.int .i64 m, .int .i64 c, .int .i64 t, .int .i64 ec, .bool sd, .bool ok, .bool sp, (.slice a rs.length cap)] 33) #[.int .i64 0, .int .i64 0, .int .i64 0, .int .i64 0, .bool false, .bool false, .bool false, .slice none 0 0] 33
  have hl := bt hb1 hb2
  obtain ⟨⟨c0, c1, c2, c3, c4, c5, c6, c7⟩, ⟨f0, f1, f2, f3, f4, f5, f6, f7⟩, -⟩ := hA.eight
  obtain ⟨⟨r0, r1, r2, r3, r4, r5, r6, r7⟩, ⟨g0, g1, g2, g3, g4, g5, g6, g7⟩, -⟩ := hR.eight
  go_enter Tryz.func106, Tryz.ntmps106
  go_wp2
  have hBB := bt (bel1 w (.cells (#[.int .i64 m, .int .i64 c, .int .i64 t, .int .i64 ec, .bool sd, .bool ok, .bool sp, .slice a rs.length cap]) 33)) (bel1 _ (.cells (#[.int .i64 m, .int .i64 c, .int .i64 t, .int .i64 ec, .bool sd, .bool ok, .bool sp, .slice a rs.length cap]) 33))
  exact bodyPost_ret (v := .tuple #[.agg #[.int .i64 m, .int .i64 c, .int .i64 t, .int .i64 ec, .bool sd, .bool ok, .bool sp, .slice a rs.length cap], .bool true]) (by simp [results, Tryz.results106, go_sem]) rfl ⟨rfl, own_later hown hBB, hBB⟩
set_option maxRecDepth 100000 in
set_option maxHeartbeats 2000000 in
theorem read_2 (m c t ec : Int) (sd ok sp : Bool) (a : Option Addr) (cap : Nat) (rs : List (Int × Int)) (R0 : Nat) (w : World) (hown : w.ownsRow R0 97 2 (.slice a rs.length cap) rs.length (flatR rs)) (b : ByteArray) (hs : b.size = 2) :
    Calls Tryz.prog 106 #[.agg #[.int .i64 m, .int .i64 c, .int .i64 t, .int .i64 ec, .bool sd, .bool ok, .bool sp, (.slice a rs.length cap)], .int .i64 2, .string b] w fun en w' => en = .returned (.tuple #[.agg #[.int .i64 ((numL ((b.data.toList.drop 0).take 2))), .int .i64 c, .int .i64 t, .int .i64 ec, .bool sd, .bool ok, .bool sp, .slice a rs.length cap], .bool (numL ((b.data.toList.drop 0).take 2) != 0)]) ∧ w'.ownsRow R0 97 2 (.slice a rs.length cap) rs.length (flatR rs) ∧ Below w.heap.size w w' := by
  have hb1 := bel1 w (.cells #[.int .i64 m, .int .i64 c, .int .i64 t, .int .i64 ec, .bool sd, .bool ok, .bool sp, (.slice a rs.length cap)] 33)
  have hb2 := bel1 (w.alloc (.cells #[.int .i64 m, .int .i64 c, .int .i64 t, .int .i64 ec, .bool sd, .bool ok, .bool sp, (.slice a rs.length cap)] 33)) (.cells #[.int .i64 0, .int .i64 0, .int .i64 0, .int .i64 0, .bool false, .bool false, .bool false, .slice none 0 0] 33)
  have hA := (At.box w #[.int .i64 m, .int .i64 c, .int .i64 t, .int .i64 ec, .bool sd, .bool ok, .bool sp, (.slice a rs.length cap)] 33).later hb2
  have hR := At.box2 w (.cells #[.int .i64 m, .int .i64 c, .int .i64 t, .int .i64 ec, .bool sd, .bool ok, .bool sp, (.slice a rs.length cap)] 33) #[.int .i64 0, .int .i64 0, .int .i64 0, .int .i64 0, .bool false, .bool false, .bool false, .slice none 0 0] 33
  have hl := bt hb1 hb2
  obtain ⟨X0, hn0⟩ : ∃ x, x = numL ((b.data.toList.drop 0).take 2) := ⟨_, rfl⟩
  have hg0 : ∀ W, Calls Tryz.prog 122 #[.string b, .int .i64 0, .int .i64 2] W fun e w' => e = .returned (.int .i64 X0) ∧ Below W.heap.size W w' := fun W => by
    have := get_o b 0 2 W (by unfold maxLen; omega)
    rw [show getV b (0 : Int) (2 : Int) = numL ((b.data.toList.drop 0).take 2) from getV_t b 0 2 (by decide) (by decide) (by omega), ← hn0] at this
    exact this
  rw [← hn0]
  clear hn0
  obtain ⟨⟨c0, c1, c2, c3, c4, c5, c6, c7⟩, -, -⟩ := hA.eight
  go_enter Tryz.func106, Tryz.ntmps106
  go_wp2_with fail
  refine (hg0 _).mono ?_
  rintro en w1 ⟨rfl, hb⟩
  replace hl := bt hl hb
  replace hA := hA.later hb
  replace hR := hR.later hb
  clear c0 c1 c2 c3 c4 c5 c6 c7 hb hb1 hb2
  obtain ⟨⟨c0, c1, c2, c3, c4, c5, c6, c7⟩, ⟨f0, f1, f2, f3, f4, f5, f6, f7⟩, -⟩ := hA.eight
  obtain ⟨⟨r0, r1, r2, r3, r4, r5, r6, r7⟩, ⟨g0, g1, g2, g3, g4, g5, g6, g7⟩, -⟩ := hR.eight
  go_wp2
  go_region
  all_goals
    go_wp2
    have hBB := (below8 (hl.setCell (p := ⟨w.heap.size, 0, none⟩) (Nat.le_refl _) (.int .i64 X0)) (Nat.le_succ _) (.int .i64 X0) (.int .i64 c) (.int .i64 t) (.int .i64 ec) (.bool sd) (.bool ok) (.bool sp) (.slice a rs.length cap)).drew
    exact bodyPost_ret (v := .tuple #[.agg #[.int .i64 X0, .int .i64 c, .int .i64 t, .int .i64 ec, .bool sd, .bool ok, .bool sp, .slice a rs.length cap], .bool (X0 != 0)]) (by simp [results, Tryz.results106, go_sem, r0, r1, r2, r3, r4, r5, r6, r7]) rfl ⟨rfl, own_later hown hBB, hBB⟩
theorem pairs_at (b : ByteArray) (k : Nat) (hk : k < b.size / 8) : (pairsL b.data.toList)[k]? = some (numL ((b.data.toList.drop (k * 8)).take 4), numL ((b.data.toList.drop (k * 8 + 4)).take 4)) := by
  unfold pairsL
  rw [toList_size, List.getElem?_map, List.getElem?_range hk]
  rfl
theorem pairs_len (b : ByteArray) : (pairsL b.data.toList).length = b.size / 8 := by simp [pairsL]
theorem takeL_snoc {α : Type} (l : List α) (k : Nat) (x : α) (h : l[k]? = some x) : l.take (k + 1) = l.take k ++ [x] := by
  obtain ⟨hk, rfl⟩ := List.getElem?_eq_some_iff.1 h
  exact List.take_succ_eq_append_getElem hk
set_option maxRecDepth 100000 in
set_option maxHeartbeats 4000000 in
theorem read_5 (m c t ec : Int) (sd ok sp : Bool) (w : World) (b : ByteArray) (hs : b.size ≤ 40) (h0 : b.size ≠ 0) (h8 : b.size % 8 = 0) :
    Calls Tryz.prog 106 #[.agg #[.int .i64 m, .int .i64 c, .int .i64 t, .int .i64 ec, .bool sd, .bool ok, .bool sp, (.slice none 0 0)], .int .i64 5, .string b] w fun en w' => ∃ v', en = .returned (.tuple #[.agg #[.int .i64 m, .int .i64 c, .int .i64 t, .int .i64 ec, .bool sd, .bool ok, .bool sp, v'], .bool true]) ∧ w'.ownsRow w.heap.size 97 2 v' (pairsL b.data.toList).length (flatR (pairsL b.data.toList)) ∧ Below w.heap.size w w' := by
  obtain ⟨i0, hi, hz0, hz1, hz2⟩ := info_parts Tryz.info97
  have HI : Hid (Tryz.prog.info? 97 = some i0 ∧ i0.zero = some (.agg #[.int .i64 0, .int .i64 0]) ∧ i0.size = 2 ∧ i0.bytes = 16) := ⟨hi, hz0, hz1, hz2⟩
  clear hi hz0 hz1 hz2
  have hb1 := bel1 w (.cells #[.int .i64 m, .int .i64 c, .int .i64 t, .int .i64 ec, .bool sd, .bool ok, .bool sp, (.slice none 0 0)] 33)
  have hb2 := bel1 (w.alloc (.cells #[.int .i64 m, .int .i64 c, .int .i64 t, .int .i64 ec, .bool sd, .bool ok, .bool sp, (.slice none 0 0)] 33)) (.cells #[.int .i64 0, .int .i64 0, .int .i64 0, .int .i64 0, .bool false, .bool false, .bool false, .slice none 0 0] 33)
  have hA := (At.box w #[.int .i64 m, .int .i64 c, .int .i64 t, .int .i64 ec, .bool sd, .bool ok, .bool sp, (.slice none 0 0)] 33).later hb2
  have hR := At.box2 w (.cells #[.int .i64 m, .int .i64 c, .int .i64 t, .int .i64 ec, .bool sd, .bool ok, .bool sp, (.slice none 0 0)] 33) #[.int .i64 0, .int .i64 0, .int .i64 0, .int .i64 0, .bool false, .bool false, .bool false, .slice none 0 0] 33
  have hl := bt hb1 hb2
  have hsz : w.heap.size + 2 ≤ ((w.alloc (.cells #[.int .i64 m, .int .i64 c, .int .i64 t, .int .i64 ec, .bool sd, .bool ok, .bool sp, (.slice none 0 0)] 33)).alloc (.cells #[.int .i64 0, .int .i64 0, .int .i64 0, .int .i64 0, .bool false, .bool false, .bool false, .slice none 0 0] 33)).heap.size := by simp
  have HST : Hid (Below w.heap.size w ((w.alloc (.cells #[.int .i64 m, .int .i64 c, .int .i64 t, .int .i64 ec, .bool sd, .bool ok, .bool sp, (.slice none 0 0)] 33)).alloc (.cells #[.int .i64 0, .int .i64 0, .int .i64 0, .int .i64 0, .bool false, .bool false, .bool false, .slice none 0 0] 33)) ∧ w.heap.size + 2 ≤ ((w.alloc (.cells #[.int .i64 m, .int .i64 c, .int .i64 t, .int .i64 ec, .bool sd, .bool ok, .bool sp, (.slice none 0 0)] 33)).alloc (.cells #[.int .i64 0, .int .i64 0, .int .i64 0, .int .i64 0, .bool false, .bool false, .bool false, .slice none 0 0] 33)).heap.size ∧ At ((w.alloc (.cells #[.int .i64 m, .int .i64 c, .int .i64 t, .int .i64 ec, .bool sd, .bool ok, .bool sp, (.slice none 0 0)] 33)).alloc (.cells #[.int .i64 0, .int .i64 0, .int .i64 0, .int .i64 0, .bool false, .bool false, .bool false, .slice none 0 0] 33)) w.heap.size #[.int .i64 m, .int .i64 c, .int .i64 t, .int .i64 ec, .bool sd, .bool ok, .bool sp, (.slice none 0 0)] ∧ At ((w.alloc (.cells #[.int .i64 m, .int .i64 c, .int .i64 t, .int .i64 ec, .bool sd, .bool ok, .bool sp, (.slice none 0 0)] 33)).alloc (.cells #[.int .i64 0, .int .i64 0, .int .i64 0, .int .i64 0, .bool false, .bool false, .bool false, .slice none 0 0] 33)) (w.heap.size + 1) #[.int .i64 0, .int .i64 0, .int .i64 0, .int .i64 0, .bool false, .bool false, .bool false, .slice none 0 0]) := ⟨hl, hsz, hA, hR⟩
  clear hb1 hb2 hA hR hl hsz
  obtain ⟨N, hN⟩ : ∃ N, N = b.size / 8 := ⟨_, rfl⟩
  have HN : Hid (b.size = N * 8) := by show _ = _; omega
  have hN1 : 1 ≤ N := by omega
  have hN5 : N ≤ 5 := by omega
  have hbs : (b.size : Int) = (N : Int) * 8 := by omega
  have hpl := pairs_len b
  rw [← hN] at hpl
  have HPL : Hid ((pairsL b.data.toList).length = N) := hpl
  have HAT : Hid (∀ k, k < N → (pairsL b.data.toList)[k]? = some (numL ((b.data.toList.drop (k * 8)).take 4), numL ((b.data.toList.drop (k * 8 + 4)).take 4))) := fun k hk => pairs_at b k (by omega)
  clear hN hpl h8 h0
  go_enter Tryz.func106, Tryz.ntmps106
  go_wp2
  go_loopw [8] (fun s W => ∃ (k : Nat) (v : Value), k ≤ N ∧ s = .int .i64 ((k * 8 : Nat) : Int) ∧ Below w.heap.size w W ∧ w.heap.size + 2 ≤ W.heap.size ∧ At W w.heap.size #[.int .i64 m, .int .i64 c, .int .i64 t, .int .i64 ec, .bool sd, .bool ok, .bool sp, v] ∧ At W (w.heap.size + 1) #[.int .i64 0, .int .i64 0, .int .i64 0, .int .i64 0, .bool false, .bool false, .bool false, .slice none 0 0] ∧ W.ownsRow (w.heap.size + 2) 97 2 v k (flatR ((pairsL b.data.toList).take k))) (fun s _ => N * 8 - (intOf s).toNat)
  case atStart => exact ⟨0, .slice none 0 0, Nat.zero_le _, by simp, HST.out.1, HST.out.2.1, HST.out.2.2.1, HST.out.2.2.2, World.ownsRow_nil _ _ _ _⟩
  case round =>
    obtain ⟨k, v, hk, rfl, hbl, hsz, hA, hR, hown⟩ := hrel
    clear HST
    by_cases hlt : k < N
    · obtain ⟨p, hp⟩ : ∃ p, p = k * 8 := ⟨_, rfl⟩
      rw [← hp]
      have hpk := HAT.out k hlt
      rw [← hp] at hpk
      have HTK := takeL_snoc _ k _ hpk
      have hp4 : p + 8 ≤ b.size := by omega
      have HGX0 := fun W => get_o b p 4 W (by unfold maxLen; omega)
      have HGY0 := fun W => get_o b ((p : Int) + 4) 4 W (by unfold maxLen; omega)
      have eX : getV b (p : Int) 4 = numL ((b.data.toList.drop p).take 4) := getV_t b p 4 (by decide) (by decide) (by omega)
      have eY : getV b ((p : Int) + 4) 4 = numL ((b.data.toList.drop (p + 4)).take 4) := by have := getV_t b (p + 4) 4 (by decide) (by decide) (by omega); rw [← this]; rfl
      rw [eX] at HGX0
      rw [eY] at HGY0
      generalize numL ((b.data.toList.drop p).take 4) = X at *
      generalize numL ((b.data.toList.drop (p + 4)).take 4) = Y at *
      have HGX : Hid (∀ W, Calls Tryz.prog 122 #[.string b, .int .i64 (p : Int), .int .i64 4] W fun e w' => e = .returned (.int .i64 X) ∧ Below W.heap.size W w') := HGX0
      have HGY : Hid (∀ W, Calls Tryz.prog 122 #[.string b, .int .i64 ((p : Int) + 4), .int .i64 4] W fun e w' => e = .returned (.int .i64 Y) ∧ Below W.heap.size W w') := HGY0
      have HTKH : Hid ((pairsL b.data.toList).take (k + 1) = (pairsL b.data.toList).take k ++ [(X, Y)]) := HTK
      have HP : Hid (p = k * 8) := hp
      have g1 : (p : Int) < (b.size : Int) := by omega
      have g2 : (p : Int) ≤ 40 := by omega
      clear HGX0 HGY0 eX eY hpk HTK hp
      have HA : Hid (At wr w.heap.size #[.int .i64 m, .int .i64 c, .int .i64 t, .int .i64 ec, .bool sd, .bool ok, .bool sp, v]) := hA
      have HR : Hid (At wr (w.heap.size + 1) #[.int .i64 0, .int .i64 0, .int .i64 0, .int .i64 0, .bool false, .bool false, .bool false, .slice none 0 0]) := hR
      have HO : Hid (wr.ownsRow (w.heap.size + 2) 97 2 v k (flatR ((pairsL b.data.toList).take k))) := hown
      clear hA hR hown
      go_wp2
      refine wp_region_any (by kernel_rfl) ?_
      refine region_facts_end (fun W => Below wr.heap.size wr W) (GE (fun i => match i with | 0 => .pointer (some ⟨w.heap.size, 7, none⟩) | 1 => v | 2 => .string b | 3 => .int .i64 (p : Int) | 4 => .int .i64 X | 5 => .string b | 6 => .int .i64 (p : Int) | 7 => .int .i64 ((p : Int) + 4) | 8 => .int .i64 Y | 9 => .agg #[.int .i64 X, .int .i64 Y] | _ => undef) (fun i => match i with | 10 => some (fun v W => ∃ g, v = .slice (some ⟨g, 0, none⟩) 1 1 ∧ g < W.heap.size ∧ W.cell? ⟨g, 0, none⟩ = some (.int .i64 X) ∧ W.cell? ⟨g, 1, none⟩ = some (.int .i64 Y)) | _ => none)) (n := 59) 11 8 (by kernel_rfl) (by kernel_rfl) rfl (by kernel_rfl) (GE_later _ _ (by
        intro i F hF v w w' h hb
        match i, hF with
        | 10, hF =>
          obtain rfl := Option.some.inj hF
          obtain ⟨g, hg, h1, h2, h3⟩ := h
          exact ⟨g, hg, Nat.lt_of_lt_of_le h1 hb.size, later hb h2, later hb h3⟩)) ?_ ?_ ((Below.refl _ _).drew) (Nat.le_refl _)
      · skip
        refine ⟨?_, ?_, ?_, ?_, ?_, ?_, ?_, ?_, ?_, ?_, ?_, trivial⟩
        · intro ac w1 hS hT hB hD K hK
          rw [if_pos (by rfl)]
          have d3 : ac.tmps.getD 3 undef = .pointer (some ⟨w.heap.size, 0, none⟩) := hB 3 (by kernel_rfl)
          clear hB hD hT
          go_simp
          exact hK _ _ hS (Below.refl _ _) rfl
        · intro ac w1 hS hT hB hD K hK
          rw [if_pos (by rfl)]
          have d45 : ac.tmps.getD 45 undef = .pointer (some ⟨w.heap.size, 7, none⟩) := hD ⟨0, .data⟩ (by simp) rfl _ 45 rfl rfl
          clear hB hD hT
          have hc := (HA.out.later hS).eight.1
          go_simp
          exact hK _ _ hS (Below.refl _ _) rfl
        · intro ac w1 hS hT hB hD K hK
          rw [if_pos (by rfl)]
          have d2 : ac.tmps.getD 2 undef = .string b := hB 2 (by kernel_rfl)
          clear hB hD hT
          go_simp
          exact hK _ _ hS (Below.refl _ _) rfl
        · intro ac w1 hS hT hB hD K hK
          rw [if_pos (by rfl)]
          have d8 : ac.tmps.getD 8 undef = .int .i64 (p : Int) := hB 8 (by kernel_rfl)
          clear hB hD hT
          go_simp
          exact hK _ _ hS (Below.refl _ _) rfl
        · intro ac w1 hS hT hB hD K hK
          rw [if_pos (by rfl)]
          have d47 : ac.tmps.getD 47 undef = .string b := hD ⟨2, .data⟩ (by simp) rfl _ 47 rfl rfl
          have d48 : ac.tmps.getD 48 undef = .int .i64 (p : Int) := hD ⟨3, .data⟩ (by simp) rfl _ 48 rfl rfl
          clear hB hD hT
          go_simp
          refine (HGX.out _).mono ?_
          rintro e w' ⟨rfl, hb⟩
          exact hK _ _ (bt hS hb) hb rfl
        · intro ac w1 hS hT hB hD K hK
          rw [if_pos (by rfl)]
          have d2 : ac.tmps.getD 2 undef = .string b := hB 2 (by kernel_rfl)
          clear hB hD hT
          go_simp
          exact hK _ _ hS (Below.refl _ _) rfl
        · intro ac w1 hS hT hB hD K hK
          rw [if_pos (by rfl)]
          have d8 : ac.tmps.getD 8 undef = .int .i64 (p : Int) := hB 8 (by kernel_rfl)
          clear hB hD hT
          go_simp
          exact hK _ _ hS (Below.refl _ _) rfl
        · intro ac w1 hS hT hB hD K hK
          rw [if_pos (by rfl)]
          have d51 : ac.tmps.getD 51 undef = .int .i64 (p : Int) := hD ⟨6, .data⟩ (by simp) rfl _ 51 rfl rfl
          clear hB hD hT
          have hw1 : IntKind.i64.wrap ((p : Int) + 4) = (p : Int) + 4 := by rw [IntKind.wrap_i64]; omega
          go_simp
          exact hK _ _ hS (Below.refl _ _) rfl
        · intro ac w1 hS hT hB hD K hK
          rw [if_pos (by rfl)]
          have d50 : ac.tmps.getD 50 undef = .string b := hD ⟨5, .data⟩ (by simp) rfl _ 50 rfl rfl
          have d52 : ac.tmps.getD 52 undef = .int .i64 ((p : Int) + 4) := hD ⟨7, .data⟩ (by simp) rfl _ 52 rfl rfl
          clear hB hD hT
          go_simp
          refine (HGY.out _).mono ?_
          rintro e w' ⟨rfl, hb⟩
          exact hK _ _ (bt hS hb) hb rfl
        · intro ac w1 hS hT hB hD K hK
          rw [if_pos (by rfl)]
          have d49 : ac.tmps.getD 49 undef = .int .i64 X := hD ⟨4, .data⟩ (by simp) rfl _ 49 rfl rfl
          have d53 : ac.tmps.getD 53 undef = .int .i64 Y := hD ⟨8, .data⟩ (by simp) rfl _ 53 rfl rfl
          clear hB hD
          obtain ⟨⟨l⟩, df⟩ := ac
          match l, hT with
          | x0 :: x1 :: x2 :: x3 :: x4 :: x5 :: x6 :: x7 :: x8 :: x9 :: x10 :: x11 :: x12 :: x13 :: x14 :: x15 :: x16 :: x17 :: x18 :: x19 :: x20 :: x21 :: x22 :: x23 :: x24 :: x25 :: x26 :: x27 :: x28 :: x29 :: x30 :: x31 :: x32 :: x33 :: x34 :: x35 :: x36 :: x37 :: x38 :: x39 :: x40 :: x41 :: x42 :: x43 :: x44 :: x45 :: x46 :: x47 :: x48 :: x49 :: x50 :: x51 :: x52 :: x53 :: x54 :: x55 :: x56 :: x57 :: x58 :: [], _ =>
            have q49 : x49 = .int .i64 X := d49
            have q53 : x53 = .int .i64 Y := d53
            clear d49 d53
            subst q49 q53
            go_simp
            exact hK _ _ hS (Below.refl _ _) rfl
        · intro ac w1 hS hT hB hD K hK
          rw [if_pos (by rfl)]
          have d54 : ac.tmps.getD 54 undef = .agg #[.int .i64 X, .int .i64 Y] := hD ⟨9, .data⟩ (by simp) rfl _ 54 rfl rfl
          clear hB hD
          obtain ⟨⟨l⟩, df⟩ := ac
          match l, hT with
          | x0 :: x1 :: x2 :: x3 :: x4 :: x5 :: x6 :: x7 :: x8 :: x9 :: x10 :: x11 :: x12 :: x13 :: x14 :: x15 :: x16 :: x17 :: x18 :: x19 :: x20 :: x21 :: x22 :: x23 :: x24 :: x25 :: x26 :: x27 :: x28 :: x29 :: x30 :: x31 :: x32 :: x33 :: x34 :: x35 :: x36 :: x37 :: x38 :: x39 :: x40 :: x41 :: x42 :: x43 :: x44 :: x45 :: x46 :: x47 :: x48 :: x49 :: x50 :: x51 :: x52 :: x53 :: x54 :: x55 :: x56 :: x57 :: x58 :: [], _ =>
            have q54 : x54 = .agg #[.int .i64 X, .int .i64 Y] := d54
            clear d54
            subst q54
            go_simp
            exact hK _ _ (bt hS (bel1 _ _)) (bel1 _ _) ⟨_, rfl, by simp, ((At.box w1 #[.int .i64 X, .int .i64 Y] 97).2 0 _ rfl).1, ((At.box w1 #[.int .i64 X, .int .i64 Y] 97).2 1 _ rfl).1⟩
      · intro ac w1 hS hT hdf hB hF
        obtain ⟨⟨l⟩, df⟩ := ac
        match l, hT with
        | x0 :: x1 :: x2 :: x3 :: x4 :: x5 :: x6 :: x7 :: x8 :: x9 :: x10 :: x11 :: x12 :: x13 :: x14 :: x15 :: x16 :: x17 :: x18 :: x19 :: x20 :: x21 :: x22 :: x23 :: x24 :: x25 :: x26 :: x27 :: x28 :: x29 :: x30 :: x31 :: x32 :: x33 :: x34 :: x35 :: x36 :: x37 :: x38 :: x39 :: x40 :: x41 :: x42 :: x43 :: x44 :: x45 :: x46 :: x47 :: x48 :: x49 :: x50 :: x51 :: x52 :: x53 :: x54 :: x55 :: x56 :: x57 :: x58 :: [], _ =>
          have s0 : x0 = .agg #[.int .i64 m, .int .i64 c, .int .i64 t, .int .i64 ec, .bool sd, .bool ok, .bool sp, (.slice none 0 0)] := hB 0 (by kernel_rfl)
          have s1 : x1 = .int .i64 5 := hB 1 (by kernel_rfl)
          have s2 : x2 = .string b := hB 2 (by kernel_rfl)
          have s3 : x3 = .pointer (some ⟨w.heap.size, 0, none⟩) := hB 3 (by kernel_rfl)
          have s4 : x4 = undef := hB 4 (by kernel_rfl)
          have s5 : x5 = undef := hB 5 (by kernel_rfl)
          have s6 : x6 = .pointer (some ⟨w.heap.size + 1, 0, none⟩) := hB 6 (by kernel_rfl)
          have s7 : x7 = .bool false := hB 7 (by kernel_rfl)
          have s8 : x8 = .int .i64 (p : Int) := hB 8 (by kernel_rfl)
          have s9 : x9 = .int .i64 5 := hB 9 (by kernel_rfl)
          have s10 : x10 = .bool false := hB 10 (by kernel_rfl)
          have s11 : x11 = .bool false := hB 11 (by kernel_rfl)
          have s12 : x12 = undef := hB 12 (by kernel_rfl)
          have s13 : x13 = undef := hB 13 (by kernel_rfl)
          have s14 : x14 = undef := hB 14 (by kernel_rfl)
          have s15 : x15 = undef := hB 15 (by kernel_rfl)
          have s16 : x16 = undef := hB 16 (by kernel_rfl)
          have s17 : x17 = undef := hB 17 (by kernel_rfl)
          have s18 : x18 = undef := hB 18 (by kernel_rfl)
          have s19 : x19 = .bool false := hB 19 (by kernel_rfl)
          have s20 : x20 = .bool false := hB 20 (by kernel_rfl)
          have s21 : x21 = undef := hB 21 (by kernel_rfl)
          have s22 : x22 = undef := hB 22 (by kernel_rfl)
          have s23 : x23 = undef := hB 23 (by kernel_rfl)
          have s24 : x24 = undef := hB 24 (by kernel_rfl)
          have s25 : x25 = .bool false := hB 25 (by kernel_rfl)
          have s26 : x26 = .bool false := hB 26 (by kernel_rfl)
          have s27 : x27 = undef := hB 27 (by kernel_rfl)
          have s28 : x28 = .bool false := hB 28 (by kernel_rfl)
          have s29 : x29 = .bool false := hB 29 (by kernel_rfl)
          have s30 : x30 = undef := hB 30 (by kernel_rfl)
          have s31 : x31 = undef := hB 31 (by kernel_rfl)
          have s32 : x32 = undef := hB 32 (by kernel_rfl)
          have s33 : x33 = undef := hB 33 (by kernel_rfl)
          have s34 : x34 = undef := hB 34 (by kernel_rfl)
          have s35 : x35 = undef := hB 35 (by kernel_rfl)
          have s36 : x36 = undef := hB 36 (by kernel_rfl)
          have s37 : x37 = .bool true := hB 37 (by kernel_rfl)
          have s38 : x38 = .bool true := hB 38 (by kernel_rfl)
          have s58 : x58 = undef := hB 58 (by kernel_rfl)
          subst s0 s1 s2 s3 s4 s5 s6 s7 s8 s9 s10 s11 s12 s13 s14 s15 s16 s17 s18 s19 s20 s21 s22 s23 s24 s25 s26 s27 s28 s29 s30 s31 s32 s33 s34 s35 s36 s37 s38 s58
          have s46 : x46 = v := hF 1 _ 46 (by decide) rfl rfl
          obtain ⟨g9, s55, hg9, e9, e9'⟩ : ∃ g, x55 = .slice (some ⟨g, 0, none⟩) 1 1 ∧ g < w1.heap.size ∧ w1.cell? ⟨g, 0, none⟩ = some (.int .i64 X) ∧ w1.cell? ⟨g, 1, none⟩ = some (.int .i64 Y) := hF 10 _ 55 (by decide) rfl rfl
          have sdf : df = [] := hdf
          subst s46 s55 sdf
          clear hB hF
          have hown1 := own_later HO.out hS
          have hsz1 := Nat.le_trans hsz hS.size
          intro Kc hKc
          rw [if_pos (by rfl)]
          refine wp_append_own w1 (.tmp 46) (.tmp 55) 31 (by rfl) (w.heap.size + 2) 97 i0 (.agg #[.int .i64 0, .int .i64 0]) 2 16 Tryz.underlying31 HI.out.1 HI.out.2.1 HI.out.2.2.1 HI.out.2.2.2 rfl (by decide) x46 k (flatR ((pairsL b.data.toList).take k)) (by rfl) hown1 ⟨g9, 0, none⟩ 1 1 [.int .i64 X, .int .i64 Y] (by rfl) rfl (two_news e9 e9') (by simp [Value.oneCell']) (by unfold maxLen; omega) (by omega) hsz1 ?_
          intro v9 w9 hown9 hgrow9 hnil9
          have hbg : Below (w.heap.size + 2) w1 w9 := (Below.refl _ _).grown hgrow9 hsz1 (fun q e => (hown1.lt q e).1)
          have hA9 := (HA.out.later hS).below hbg (by omega)
          have hR9 := (HR.out.later hS).below hbg (by omega)
          have hb9 : Below w.heap.size w w9 := (bt hbl hS).trans (hbg.mono (by omega))
          have hsz9 := Nat.le_trans hsz1 hbg.size
          replace hown9 : w9.ownsRow (w.heap.size + 2) 97 2 v9 (k + 1) (flatR ((pairsL b.data.toList).take (k + 1))) := by rw [HTKH.out, flatR_snoc]; exact hown9
          rcases id hown9.2 with ⟨-, hq⟩ | ⟨g, cap9, cur, rfl, hg, -⟩
          · omega
          clear hnil9 hgrow9 hbg hown1 hsz1 e9 e9' hg9 hS
          obtain ⟨⟨c0, c1, c2, c3, c4, c5, c6, c7⟩, ⟨f0, f1, f2, f3, f4, f5, f6, f7⟩, -⟩ := hA9.eight
          apply hKc
          clear hKc Kc
          intro Kc hKc
          rw [if_pos (by rfl)]
          go_simp
          apply hKc
          clear hKc Kc
          intro Kc hKc
          rw [if_pos (by rfl)]
          go_simp
          apply hKc
          clear hKc Kc
          refine TailOk_nil ?_
          go_wp2
          go_roundw
          case rel => exact ⟨k + 1, _, by omega, by rw [Nat.add_mul, ← HP.out]; go_num, hb9.setCell (Nat.le_refl _) _, by rw [World.size_setCell]; exact hsz9, hA9.set 7 _, hR9.keep (by omega) 7 _, own_setCell hown9 w.heap.size 7 _ (by omega)⟩
          case measure => simp [intOf]; omega
    · have hkN : k = N := by omega
      subst hkN
      have hg : ¬ ((k * 8 : Nat) : Int) < (b.size : Int) := by omega
      rcases id hown.2 with ⟨-, hq⟩ | ⟨g, cap9, cur, rfl, hg9, -⟩
      · omega
      rw [List.take_of_length_le (by rw [HPL.out]; exact Nat.le_refl _)] at hown
      have HO : Hid (wr.ownsRow (w.heap.size + 2) 97 2 (.slice (some ⟨g, 0, none⟩) k cap9) k (flatR (pairsL b.data.toList))) := hown
      clear hown
      obtain ⟨⟨c0, c1, c2, c3, c4, c5, c6, c7⟩, ⟨f0, f1, f2, f3, f4, f5, f6, f7⟩, -⟩ := hA.eight
      obtain ⟨⟨r0, r1, r2, r3, r4, r5, r6, r7⟩, ⟨g0, g1, g2, g3, g4, g5, g6, g7⟩, -⟩ := hR.eight
      go_wp2
      exact bodyPost_ret (v := .tuple #[.agg #[.int .i64 m, .int .i64 c, .int .i64 t, .int .i64 ec, .bool sd, .bool ok, .bool sp, .slice (some ⟨g, 0, none⟩) k cap9], .bool true]) (by simp [results, Tryz.results106, go_sem, r0, r1, r2, r3, r4, r5, r6, r7]) rfl ⟨_, rfl, by rw [HPL.out]; exact own_mono (own_set8 HO.out (w.heap.size + 1) (by omega) _ _ _ _ _ _ _ _) (by omega), below8 hbl (Nat.le_succ _) _ _ _ _ _ _ _ _⟩
end Go.Proofs.YtkpdmgoldngdaabGreatDoor

namespace Go.Proofs.YtkpdmgoldngdaabGreatDoor
open Go.RowKit
set_option maxRecDepth 100000

def OV (o : Op) (v : Value) : Array Value := #[.int .i64 o.m, .int .i64 o.c, .int .i64 o.t, .int .i64 o.ec, .bool o.sd, .bool o.ok, .bool o.sp, v]
theorem whole_take (l : List UInt8) (k : Nat) (h : l.length = k) : (l.drop 0).take k = l := by rw [List.drop_zero, List.take_of_length_le (by omega)]
theorem read_any (o : Op) (v : Value) (kind : Int) (b : ByteArray) (R0 : Nat) (w : World) (hown : w.ownsRow R0 97 2 v o.rs.length (flatR o.rs)) (hnil : o.rs = [] → v = .slice none 0 0) (hs : b.size ≤ 40) (hf : followsB o kind b.size = true) (hR0 : R0 ≤ w.heap.size) :
    Calls Tryz.prog 106 #[.agg (OV o v), .int .i64 kind, .string b] w fun en w' => ∃ v', en = .returned (.tuple #[.agg (OV (takeO o kind b.data.toList) v'), .bool (saysB kind b.data.toList)]) ∧ w'.ownsRow R0 97 2 v' (takeO o kind b.data.toList).rs.length (flatR (takeO o kind b.data.toList).rs) ∧ ((takeO o kind b.data.toList).rs = [] → v' = .slice none 0 0) ∧ Below w.heap.size w w' := by
  obtain ⟨m, c, t, ec, sd, ok, sp, rs⟩ := o
  have hl : b.data.toList.length = b.size := toList_size b
  unfold followsB at hf
  by_cases h5 : kind = 5
  · subst h5
    rw [if_pos rfl] at hf
    simp only [Bool.and_eq_true, decide_eq_true_eq] at hf
    obtain ⟨⟨h0, h8⟩, hr⟩ := hf
    have hr0 : rs = [] := List.eq_nil_of_length_eq_zero hr
    subst hr0
    obtain rfl := hnil rfl
    have ht : takeO ⟨m, c, t, ec, sd, ok, sp, []⟩ 5 b.data.toList = ⟨m, c, t, ec, sd, ok, sp, pairsL b.data.toList⟩ := by simp [takeO]
    have hsy : saysB 5 b.data.toList = true := by simp [saysB]
    rw [ht, hsy]
    refine (read_5 m c t ec sd ok sp w b hs h0 h8).mono ?_
    rintro en w' ⟨v', rfl, ho, hb⟩
    refine ⟨v', rfl, own_mono ho hR0, fun h => ?_, hb⟩
    have := pairs_len b
    have h' : pairsL b.data.toList = [] := h
    rw [h'] at this
    simp at this
    omega
  rw [if_neg h5] at hf
  obtain ⟨a, cap, hv, -, -⟩ := own_slice hown
  have hv' : v = .slice a rs.length cap := hv
  subst hv'
  by_cases h2 : kind = 2
  · subst h2
    rw [if_pos rfl] at hf
    simp only [Bool.and_eq_true, decide_eq_true_eq] at hf
    have ht : takeO ⟨m, c, t, ec, sd, ok, sp, rs⟩ 2 b.data.toList = ⟨numL b.data.toList, c, t, ec, sd, ok, sp, rs⟩ := by simp [takeO]
    have hsy : saysB 2 b.data.toList = (numL b.data.toList != 0) := by
      simp only [saysB, decide_true, Bool.true_and]; rfl
    rw [ht, hsy]
    have := read_2 m c t ec sd ok sp a cap rs R0 w hown b hf.1
    rw [whole_take _ _ (hl.trans hf.1)] at this
    refine this.mono ?_
    rintro en w' ⟨rfl, ho, hb⟩
    exact ⟨_, rfl, ho, hnil, hb⟩
  rw [if_neg h2] at hf
  have hsy : saysB kind b.data.toList = true := by simp [saysB, h2]
  rw [hsy]
  by_cases h3 : kind = 3
  · subst h3
    rw [if_pos rfl] at hf
    simp only [Bool.and_eq_true, decide_eq_true_eq] at hf
    have ht : takeO ⟨m, c, t, ec, sd, ok, sp, rs⟩ 3 b.data.toList = ⟨m, numL b.data.toList, t, ec, true, ok, sp, rs⟩ := by simp [takeO]
    rw [ht]
    have := read_3 m c t ec sd ok sp a cap rs R0 w hown b hf.1
    rw [whole_take _ _ (hl.trans hf.1)] at this
    refine this.mono ?_
    rintro en w' ⟨rfl, ho, hb⟩
    exact ⟨_, rfl, ho, hnil, hb⟩
  rw [if_neg h3] at hf
  by_cases h4 : kind = 4
  · subst h4
    have ht : takeO ⟨m, c, t, ec, sd, ok, sp, rs⟩ 4 b.data.toList = ⟨m, c, t, ec, sd, true, sp, rs⟩ := by simp [takeO]
    rw [ht]
    refine (read_4 m c t ec sd ok sp a cap rs R0 w hown b).mono ?_
    rintro en w' ⟨rfl, ho, hb⟩
    exact ⟨_, rfl, ho, hnil, hb⟩
  rw [if_neg h4] at hf
  by_cases h8 : kind = 8
  · subst h8
    rw [if_pos rfl] at hf
    simp only [Bool.and_eq_true, decide_eq_true_eq] at hf
    have ht : takeO ⟨m, c, t, ec, sd, ok, sp, rs⟩ 8 b.data.toList = ⟨m, c, numL (b.data.toList.take 4), numL (b.data.toList.drop 4), sd, ok, true, rs⟩ := by simp [takeO]
    rw [ht]
    have := read_8 m c t ec sd ok sp a cap rs R0 w hown b hf.1
    rw [List.drop_zero, List.take_of_length_le (l := b.data.toList.drop 4) (by rw [List.length_drop, hl, hf.1]; omega)] at this
    refine this.mono ?_
    rintro en w' ⟨rfl, ho, hb⟩
    exact ⟨_, rfl, ho, hnil, hb⟩
  have ht : takeO ⟨m, c, t, ec, sd, ok, sp, rs⟩ kind b.data.toList = ⟨m, c, t, ec, sd, ok, sp, rs⟩ := by simp [takeO, h2, h3, h4, h8, h5]
  rw [ht]
  refine (read_x m c t ec sd ok sp a cap rs R0 w hown b kind h2 h3 h4 h8 h5).mono ?_
  rintro en w' ⟨rfl, ho, hb⟩
  exact ⟨_, rfl, ho, hnil, hb⟩

def runS (x : ByteArray) (o : Op) : Option Op := runO (x.size + 1) x.data.toList o
def headN (x : ByteArray) : Nat := (x.data.toList.getD 0 0).toNat
theorem byte0 (x : ByteArray) (h : 0 < x.size) : (x[0].toNat : Int) = (headN x : Int) := by
  unfold headN
  have h' : 0 < x.data.toList.length := by simpa using h
  rw [List.getD_eq_getElem?_getD, List.getElem?_eq_getElem h']
  rfl
theorem headN_le (x : ByteArray) : headN x ≤ 255 := by unfold headN; have := (x.data.toList.getD 0 0).toNat_lt; omega
theorem run_nil (x : ByteArray) (o : Op) (h : x.size = 0) : runS x o = some o := by
  unfold runS
  have : x.data.toList = [] := List.eq_nil_of_length_eq_zero (by rw [toList_size, h])
  rw [this, h]; rfl
theorem list_split (x : ByteArray) (h : 0 < x.size) : x.data.toList = x.data.toList.getD 0 0 :: x.data.toList.drop 1 := by
  have h' : 0 < x.data.toList.length := by simpa using h
  cases hx : x.data.toList with
  | nil => rw [hx] at h'; simp at h'
  | cons a l => simp [List.getD]
theorem run_zero (x : ByteArray) (o : Op) (h : 0 < x.size) (h0 : headN x = 0) : runS x o = some o := by
  unfold runS
  rw [list_split x h]
  have e : x.data.toList.getD 0 0 = 0 := UInt8.toNat.inj h0
  rw [e]
  simp [runO]
theorem ext_list (x : ByteArray) (i j : Nat) (_ : j ≤ x.size) : (x.extract i j).data.toList = (x.data.toList.drop i).take (j - i) := by
  rw [ByteArray.data_extract, Array.toList_extract, List.extract_eq_take_drop]
theorem run_one (x : ByteArray) (o : Op) (h : 0 < x.size) (h1 : headN x = 1) : runS x o = runS (x.extract 1 x.size) o := by
  have e : x.data.toList.getD 0 0 = 1 := UInt8.toNat.inj h1
  have hx : (x.extract 1 x.size).data.toList = x.data.toList.drop 1 := by
    rw [ext_list x 1 _ (Nat.le_refl _), List.take_of_length_le (by rw [List.length_drop, toList_size]; exact Nat.le_refl _)]
  unfold runS
  rw [hx]
  conv => lhs; rw [list_split x h, e]
  simp only [runO]
  rw [if_neg (by decide), if_pos trivial]
  refine runO_fuel _ _ _ _ ?_ ?_
  · rw [List.length_drop, toList_size]; omega
  · rw [List.length_drop, toList_size, ByteArray.size_extract]; omega
def nextO (r : Option Op) (y : ByteArray) : Option Op := match r with
  | none => none
  | some o' => runS y o'
def okO (r : Option Op) : Option Op := match r with
  | none => none
  | some o => if o.may = true then some o else none
theorem run_more (x : ByteArray) (o : Op) (h : 0 < x.size) (h0 : headN x ≠ 0) (h1 : headN x ≠ 1) : runS x o = if firstB x = true then nextO (stepO o (headN x : Int) (x.extract 2 (firstN x)).data.toList) (x.extract (firstN x) x.size) else none := by
  have e0 : ¬ x.data.toList.getD 0 0 = 0 := fun e => h0 (by unfold headN; rw [e]; rfl)
  have e1 : ¬ x.data.toList.getD 0 0 = 1 := fun e => h1 (by unfold headN; rw [e]; rfl)
  unfold nextO runS
  conv => lhs; rw [list_split x h]
  simp only [runO]
  rw [if_neg e0, if_neg e1]
  by_cases h2 : 2 ≤ x.size
  · have hd : x.data.toList.drop 1 = x.data.toList.getD 1 0 :: x.data.toList.drop 2 := by
      have h' : 1 < x.data.toList.length := by rw [toList_size]; omega
      rw [List.drop_eq_getElem_cons h']
      congr 1
      rw [List.getD_eq_getElem?_getD, List.getElem?_eq_getElem h']; rfl
    rw [hd]
    simp only
    have hl : (x.data.toList.drop 2).length + 2 = x.size := by rw [List.length_drop, toList_size]; omega
    rw [hl]
    by_cases hf : firstB x = true
    · obtain ⟨-, f1, f2⟩ := of_decide_eq_true (show decide (2 ≤ x.size ∧ 2 ≤ (x.data.toList.getD 1 0).toNat ∧ (x.data.toList.getD 1 0).toNat ≤ x.size) = true from hf)
      rw [if_neg (by omega), if_pos hf]
      have e2 : (x.extract 2 (firstN x)).data.toList = (x.data.toList.drop 2).take ((x.data.toList.getD 1 0).toNat - 2) := ext_list x 2 _ f2
      have e3 : (x.extract (firstN x) x.size).data.toList = (x.data.toList.drop 2).drop ((x.data.toList.getD 1 0).toNat - 2) := by
        rw [ext_list x _ _ (Nat.le_refl _), List.take_of_length_le (by rw [List.length_drop, toList_size]; exact Nat.le_refl _), List.drop_drop]
        congr 1
        show (x.data.toList.getD 1 0).toNat = _
        omega
      rw [e2, e3]
      show (match stepO o (headN x : Int) _ with | none => none | some o' => _) = _
      cases stepO o (headN x : Int) ((x.data.toList.drop 2).take ((x.data.toList.getD 1 0).toNat - 2)) with
      | none => rfl
      | some o' =>
        refine runO_fuel _ _ _ _ ?_ ?_
        · rw [List.length_drop, List.length_drop, toList_size]; omega
        · rw [List.length_drop, List.length_drop, toList_size, ByteArray.size_extract]
          show _ < min x.size x.size - (x.data.toList.getD 1 0).toNat + 1
          omega
    · rw [if_neg hf]
      have hf' := of_decide_eq_false (show decide (2 ≤ x.size ∧ 2 ≤ (x.data.toList.getD 1 0).toNat ∧ (x.data.toList.getD 1 0).toNat ≤ x.size) = false by simpa [firstB] using hf)
      rw [if_pos (by omega)]
  · have hd : x.data.toList.drop 1 = [] := List.drop_eq_nil_of_le (by rw [toList_size]; omega)
    rw [hd]
    rw [if_neg (by unfold firstB; simp; omega)]
theorem decO_s (s : ByteArray) (h : s.size ≤ 40) : decO s.data.toList = okO (runS s Op.zero) := by
  unfold decO runS okO
  rw [if_neg (by rw [toList_size]; omega), runO_fuel 41 s.data.toList Op.zero (s.size + 1) (by rw [toList_size]; omega) (by rw [toList_size]; omega)]
  all_goals (cases runO (s.size + 1) s.data.toList Op.zero <;> rfl)
end Go.Proofs.YtkpdmgoldngdaabGreatDoor

namespace Go.Proofs.YtkpdmgoldngdaabGreatDoor
open Go.RowKit
set_option maxRecDepth 100000

def szOf : Value → Nat | .string x => x.size | _ => 0
def DecPost (r : Option Op) (w : World) (en : Ending) (w' : World) : Prop := match r with
  | none => en = .returned (.tuple #[.agg #[.int .i64 0, .int .i64 0, .int .i64 0, .int .i64 0, .bool false, .bool false, .bool false, .slice none 0 0], .int .i64 70]) ∧ Below w.heap.size w w'
  | some o => ∃ v, en = .returned (.tuple #[.agg (OV o v), .int .i64 0]) ∧ w'.ownsRow w.heap.size 97 2 v o.rs.length (flatR o.rs) ∧ Below w.heap.size w w'
theorem ne_empty (x : ByteArray) (h : 0 < x.size) : x.toList.isEmpty = false := by
  rw [ByteArray.toList_eq]
  cases e : x.data.toList with
  | nil =>
    have : x.size = 0 := by rw [← toList_size, e]; rfl
    omega
  | cons a l => rfl
set_option maxRecDepth 100000 in
set_option maxHeartbeats 8000000 in
theorem dec_any (s : ByteArray) (w : World) (hG : Ord w) (hs : s.size ≤ 1125899906842624) : Calls Tryz.prog 82 #[.string s] w fun en w' => DecPost (decO s.data.toList) w en w' := by
  have hs' : (s.size : Int) ≤ 1125899906842624 := by omega
  by_cases h40 : 40 < s.size
  · have HD : Hid (decO s.data.toList = none) := by show _ = _; unfold decO; rw [if_pos (by rw [toList_size]; exact h40)]
    have h40' : (40 : Int) < (s.size : Int) := by omega
    go_enter Tryz.func82, Tryz.ntmps82
    go_wp2
    exact bodyPost_ret (v := .tuple #[.agg #[.int .i64 0, .int .i64 0, .int .i64 0, .int .i64 0, .bool false, .bool false, .bool false, .slice none 0 0], .int .i64 70]) (by simp [results, Tryz.results82, go_sem]) rfl (by rw [HD.out]; exact ⟨rfl, bel1 _ _⟩)
  · have hD := decO_s s (by omega)
    obtain ⟨RN, hRN⟩ : ∃ R, R = runS s Op.zero := ⟨_, rfl⟩
    rw [← hRN] at hD
    rw [hD]
    clear hD
    have h40' : ¬ (40 : Int) < (s.size : Int) := by omega
    have hb1 := bel1 w (.cells #[.int .i64 0, .int .i64 0, .int .i64 0, .int .i64 0, .bool false, .bool false, .bool false, .slice none 0 0] 33)
    have hb2 := bel1 (w.alloc (.cells #[.int .i64 0, .int .i64 0, .int .i64 0, .int .i64 0, .bool false, .bool false, .bool false, .slice none 0 0] 33)) (.cells #[.int .i64 0, .int .i64 0, .int .i64 0, .int .i64 0, .bool false, .bool false, .bool false, .slice none 0 0] 33)
    have HST : Hid (Below w.heap.size w ((w.alloc (.cells #[.int .i64 0, .int .i64 0, .int .i64 0, .int .i64 0, .bool false, .bool false, .bool false, .slice none 0 0] 33)).alloc (.cells #[.int .i64 0, .int .i64 0, .int .i64 0, .int .i64 0, .bool false, .bool false, .bool false, .slice none 0 0] 33)) ∧ w.heap.size + 2 ≤ ((w.alloc (.cells #[.int .i64 0, .int .i64 0, .int .i64 0, .int .i64 0, .bool false, .bool false, .bool false, .slice none 0 0] 33)).alloc (.cells #[.int .i64 0, .int .i64 0, .int .i64 0, .int .i64 0, .bool false, .bool false, .bool false, .slice none 0 0] 33)).heap.size ∧ At ((w.alloc (.cells #[.int .i64 0, .int .i64 0, .int .i64 0, .int .i64 0, .bool false, .bool false, .bool false, .slice none 0 0] 33)).alloc (.cells #[.int .i64 0, .int .i64 0, .int .i64 0, .int .i64 0, .bool false, .bool false, .bool false, .slice none 0 0] 33)) w.heap.size #[.int .i64 0, .int .i64 0, .int .i64 0, .int .i64 0, .bool false, .bool false, .bool false, .slice none 0 0] ∧ At ((w.alloc (.cells #[.int .i64 0, .int .i64 0, .int .i64 0, .int .i64 0, .bool false, .bool false, .bool false, .slice none 0 0] 33)).alloc (.cells #[.int .i64 0, .int .i64 0, .int .i64 0, .int .i64 0, .bool false, .bool false, .bool false, .slice none 0 0] 33)) (w.heap.size + 1) (OV Op.zero (.slice none 0 0))) := ⟨bt hb1 hb2, by simp, (At.box w #[.int .i64 0, .int .i64 0, .int .i64 0, .int .i64 0, .bool false, .bool false, .bool false, .slice none 0 0] 33).later hb2, At.box2 w (.cells #[.int .i64 0, .int .i64 0, .int .i64 0, .int .i64 0, .bool false, .bool false, .bool false, .slice none 0 0] 33) #[.int .i64 0, .int .i64 0, .int .i64 0, .int .i64 0, .bool false, .bool false, .bool false, .slice none 0 0] 33⟩
    have HRN0 : Hid (RN = runS s Op.zero) := hRN
    have HG : Hid (Ord w) := hG
    clear hb1 hb2 hRN hG h40
    go_enter Tryz.func82, Tryz.ntmps82
    go_wp2
    go_loopw [0] (fun sv W => ∃ (x : ByteArray) (o : Op) (v : Value), sv = .string x ∧ x.size ≤ 40 ∧ runS x o = RN ∧ Below w.heap.size w W ∧ w.heap.size + 2 ≤ W.heap.size ∧ At W w.heap.size #[.int .i64 0, .int .i64 0, .int .i64 0, .int .i64 0, .bool false, .bool false, .bool false, .slice none 0 0] ∧ At W (w.heap.size + 1) (OV o v) ∧ W.ownsRow (w.heap.size + 2) 97 2 v o.rs.length (flatR o.rs) ∧ (o.rs = [] → v = .slice none 0 0) ∧ o.rs.length ≤ 40) (fun sv _ => szOf sv)
    case atStart => exact ⟨s, Op.zero, .slice none 0 0, rfl, by omega, HRN0.out.symm, HST.out.1, HST.out.2.1, HST.out.2.2.1, HST.out.2.2.2, World.ownsRow_nil _ _ _ _, fun _ => rfl, by decide⟩
    case round =>
      obtain ⟨x, o, v, rfl, hx40, hrun, hbl, hsz, hR, hA, hown, hnil, hr40⟩ := hrel
      clear HST HRN0
      obtain ⟨va, vcap, hvv, -, -⟩ := own_slice hown
      subst hvv
      have HRUN : Hid (runS x o = RN) := hrun
      have HOWN : Hid (wr.ownsRow (w.heap.size + 2) 97 2 (Value.slice va o.rs.length vcap) o.rs.length (flatR o.rs)) := hown
      have HNIL : Hid (o.rs = [] → (Value.slice va o.rs.length vcap) = Value.slice none 0 0) := hnil
      have HA : Hid (At wr (w.heap.size + 1) (OV o (Value.slice va o.rs.length vcap))) := hA
      have HR : Hid (At wr w.heap.size #[.int .i64 0, .int .i64 0, .int .i64 0, .int .i64 0, .bool false, .bool false, .bool false, .slice none 0 0]) := hR
      clear hrun hown hnil hA hR
      have hx40' : (x.size : Int) ≤ 40 := by omega
      by_cases hx0 : x.size = 0
      · have hxe : x = ⟨#[]⟩ := by apply ba_toList; exact List.eq_nil_of_length_eq_zero (by rw [toList_size, hx0])
        have HRS : Hid (RN = some o) := by show _ = _; rw [← HRUN.out, run_nil x o hx0]
        subst hxe
        clear HRUN hx0 hx40 hx40'
        obtain ⟨⟨c0, c1, c2, c3, c4, c5, c6, c7⟩, ⟨f0, f1, f2, f3, f4, f5, f6, f7⟩, -⟩ := HA.out.eight
        have hM := may_any o.m o.c o.t o.ec o.sd o.ok o.sp (Value.slice va o.rs.length vcap) o.rs wr (Rgs.of_own HOWN.out) (by omega) (HG.out.later hbl)
        rcases Bool.eq_false_or_eq_true o.may with hm | hm
        · rw [show mayO o.m o.c o.t o.ec o.sd o.ok o.sp o.rs = true from hm] at hM
          have HRN : Hid (okO RN = some o) := by show _ = _; rw [HRS.out]; simp [okO, hm]
          clear hm HRS
          go_wp2_with fail
          refine hM.mono ?_
          rintro en w1 ⟨rfl, hb⟩
          clear c0 c1 c2 c3 c4 c5 c6 c7 f0 f1 f2 f3 f4 f5 f6 f7
          obtain ⟨⟨c0, c1, c2, c3, c4, c5, c6, c7⟩, ⟨f0, f1, f2, f3, f4, f5, f6, f7⟩, -⟩ := (HA.out.later hb).eight
          obtain ⟨⟨r0, r1, r2, r3, r4, r5, r6, r7⟩, ⟨g0, g1, g2, g3, g4, g5, g6, g7⟩, -⟩ := (HR.out.later hb).eight
          go_wp2
          exact bodyPost_ret (v := .tuple #[.agg #[.int .i64 o.m, .int .i64 o.c, .int .i64 o.t, .int .i64 o.ec, .bool o.sd, .bool o.ok, .bool o.sp, (Value.slice va o.rs.length vcap)], .int .i64 0]) (by simp [results, Tryz.results82, go_sem, r0, r1, r2, r3, r4, r5, r6, r7]) rfl (by rw [HRN.out]; exact ⟨_, rfl, own_mono (own_set8 (own_later HOWN.out hb) w.heap.size (by omega) _ _ _ _ _ _ _ _) (by omega), below8 (bt hbl hb) (Nat.le_refl _) _ _ _ _ _ _ _ _⟩)
        · rw [show mayO o.m o.c o.t o.ec o.sd o.ok o.sp o.rs = false from hm] at hM
          have HRN : Hid (okO RN = none) := by show _ = _; rw [HRS.out]; simp [okO, hm]
          clear hm HRS
          go_wp2_with fail
          refine hM.mono ?_
          rintro en w1 ⟨rfl, hb⟩
          clear c0 c1 c2 c3 c4 c5 c6 c7 f0 f1 f2 f3 f4 f5 f6 f7
          obtain ⟨⟨r0, r1, r2, r3, r4, r5, r6, r7⟩, ⟨g0, g1, g2, g3, g4, g5, g6, g7⟩, -⟩ := (HR.out.later hb).eight
          go_wp2
          exact bodyPost_ret (v := .tuple #[.agg #[.int .i64 0, .int .i64 0, .int .i64 0, .int .i64 0, .bool false, .bool false, .bool false, .slice none 0 0], .int .i64 70]) (by simp [results, Tryz.results82, go_sem, r0, r1, r2, r3, r4, r5, r6, r7]) rfl (by rw [HRN.out]; exact ⟨rfl, below8 (bt hbl hb) (Nat.le_refl _) _ _ _ _ _ _ _ _⟩)
      · have hxp : 0 < x.size := by omega
        have hne := ne_empty x hxp
        have hi0 := byte0 x hxp
        have hle0 := headN_le x
        have HZ : Hid (headN x = 0 → runS x o = some o) := run_zero x o hxp
        have HO : Hid (headN x = 1 → runS x o = runS (x.extract 1 x.size) o) := run_one x o hxp
        have HM : Hid (headN x ≠ 0 → headN x ≠ 1 → runS x o = if firstB x = true then nextO (stepO o (headN x : Int) (x.extract 2 (firstN x)).data.toList) (x.extract (firstN x) x.size) else none) := run_more x o hxp
        have HX0 : Hid (0 < x.size) := hxp
        have hxp' : (0 : Int) < (x.size : Int) := by omega
        clear hx0
        obtain ⟨K0, hK0⟩ : ∃ K0, K0 = headN x := ⟨_, rfl⟩
        rw [← hK0] at hi0 hle0 HZ HO HM
        have HK0 : Hid (headN x = K0) := hK0.symm
        clear hK0
        have hle0' : (K0 : Int) ≤ 255 := by omega
        by_cases k0 : K0 = 0
        · subst k0
          have HRS : Hid (RN = some o) := by show _ = _; rw [← HRUN.out, HZ.out rfl]
          clear HRUN HZ HO HM
          obtain ⟨⟨c0, c1, c2, c3, c4, c5, c6, c7⟩, ⟨f0, f1, f2, f3, f4, f5, f6, f7⟩, -⟩ := HA.out.eight
          have hM := may_any o.m o.c o.t o.ec o.sd o.ok o.sp (Value.slice va o.rs.length vcap) o.rs wr (Rgs.of_own HOWN.out) (by omega) (HG.out.later hbl)
          rcases Bool.eq_false_or_eq_true o.may with hm | hm
          · rw [show mayO o.m o.c o.t o.ec o.sd o.ok o.sp o.rs = true from hm] at hM
            have HRN : Hid (okO RN = some o) := by show _ = _; rw [HRS.out]; simp [okO, hm]
            clear hm HRS
            go_wp2_with fail
            refine hM.mono ?_
            rintro en w1 ⟨rfl, hb⟩
            clear c0 c1 c2 c3 c4 c5 c6 c7 f0 f1 f2 f3 f4 f5 f6 f7
            obtain ⟨⟨c0, c1, c2, c3, c4, c5, c6, c7⟩, ⟨f0, f1, f2, f3, f4, f5, f6, f7⟩, -⟩ := (HA.out.later hb).eight
            obtain ⟨⟨r0, r1, r2, r3, r4, r5, r6, r7⟩, ⟨g0, g1, g2, g3, g4, g5, g6, g7⟩, -⟩ := (HR.out.later hb).eight
            go_wp2
            exact bodyPost_ret (v := .tuple #[.agg #[.int .i64 o.m, .int .i64 o.c, .int .i64 o.t, .int .i64 o.ec, .bool o.sd, .bool o.ok, .bool o.sp, (Value.slice va o.rs.length vcap)], .int .i64 0]) (by simp [results, Tryz.results82, go_sem, r0, r1, r2, r3, r4, r5, r6, r7]) rfl (by rw [HRN.out]; exact ⟨_, rfl, own_mono (own_set8 (own_later HOWN.out hb) w.heap.size (by omega) _ _ _ _ _ _ _ _) (by omega), below8 (bt hbl hb) (Nat.le_refl _) _ _ _ _ _ _ _ _⟩)
          · rw [show mayO o.m o.c o.t o.ec o.sd o.ok o.sp o.rs = false from hm] at hM
            have HRN : Hid (okO RN = none) := by show _ = _; rw [HRS.out]; simp [okO, hm]
            clear hm HRS
            go_wp2_with fail
            refine hM.mono ?_
            rintro en w1 ⟨rfl, hb⟩
            clear c0 c1 c2 c3 c4 c5 c6 c7 f0 f1 f2 f3 f4 f5 f6 f7
            obtain ⟨⟨r0, r1, r2, r3, r4, r5, r6, r7⟩, ⟨g0, g1, g2, g3, g4, g5, g6, g7⟩, -⟩ := (HR.out.later hb).eight
            go_wp2
            exact bodyPost_ret (v := .tuple #[.agg #[.int .i64 0, .int .i64 0, .int .i64 0, .int .i64 0, .bool false, .bool false, .bool false, .slice none 0 0], .int .i64 70]) (by simp [results, Tryz.results82, go_sem, r0, r1, r2, r3, r4, r5, r6, r7]) rfl (by rw [HRN.out]; exact ⟨rfl, below8 (bt hbl hb) (Nat.le_refl _) _ _ _ _ _ _ _ _⟩)
        by_cases k1 : K0 = 1
        · subst k1
          clear HZ HM k0
          have HE : Hid (runS (x.extract 1 x.size) o = RN) := by show _ = _; rw [← HRUN.out, HO.out rfl]
          have g1 : (1 : Int) ≤ (x.size : Int) := by omega
          have hi1 := hi0.trans (show ((1 : Nat) : Int) = 1 from rfl)
          clear hi0 hle0 hle0'
          go_wp2
          go_roundw
          case rel => exact ⟨x.extract 1 x.size, o, _, rfl, by rw [ByteArray.size_extract]; omega, HE.out, hbl, hsz, HR.out, HA.out, HOWN.out, HNIL.out, hr40⟩
          case measure => simp [szOf, ByteArray.size_extract]; omega
        have k0' : ¬ (K0 : Int) = 0 := by omega
        have k1' : ¬ (K0 : Int) = 1 := by omega
        have HRM := HM.out k0 k1
        clear HZ HO HM
        rcases Bool.eq_false_or_eq_true (firstB x) with hf | hf
        · rw [hf, if_pos rfl] at HRM
          have hff := of_decide_eq_true (show decide (2 ≤ x.size ∧ 2 ≤ (x.data.toList.getD 1 0).toNat ∧ (x.data.toList.getD 1 0).toNat ≤ x.size) = true from hf)
          have hn2 : 2 ≤ firstN x := hff.2.1
          have hn3 : firstN x ≤ x.size := hff.2.2
          have HFT : Hid (∀ W, Calls Tryz.prog 104 #[.string x] W fun e w' => e = .returned (.tuple #[.string (x.extract 2 (firstN x)), .bool true]) ∧ w' = W) := fun W => first_t x W hx40 hf
          clear hff hf
          have hBs : (x.extract 2 (firstN x)).size = firstN x - 2 := by rw [ByteArray.size_extract]; omega
          have hys : (x.extract (firstN x) x.size).size = x.size - firstN x := by rw [ByteArray.size_extract]; omega
          have HY : Hid (x.extract (2 + (x.extract 2 (firstN x)).size) x.size = x.extract (firstN x) x.size) := by
            show _ = _
            rw [hBs, show 2 + (firstN x - 2) = firstN x by omega]
          generalize hyy : x.extract (firstN x) x.size = y at *
          generalize hBB : x.extract 2 (firstN x) = B at *
          clear hyy hBB
          have hB40 : B.size ≤ 40 := by omega
          have hB' : 2 + (B.size : Int) ≤ (x.size : Int) := by omega
          have hB0 : (B.size : Int) ≤ 38 := by omega
          have hyl : y.size < x.size := by omega
          clear hBs hys hn2 hn3
          rcases Bool.eq_false_or_eq_true (followsB o (K0 : Int) B.size) with hfo | hfo
          · have HFO : Hid (∀ W, Calls Tryz.prog 105 #[.agg #[.int .i64 o.m, .int .i64 o.c, .int .i64 o.t, .int .i64 o.ec, .bool o.sd, .bool o.ok, .bool o.sp, (Value.slice va o.rs.length vcap)], .int .i64 (K0 : Int), .int .i64 (B.size : Int)] W fun e w' => e = .returned (.bool true) ∧ Below W.heap.size W w') := fun W => by
              have := follows_any o va vcap (K0 : Int) B.size W hB40
              rw [hfo] at this; exact this
            have HRD : Hid (∀ W, W.ownsRow (w.heap.size + 2) 97 2 (Value.slice va o.rs.length vcap) o.rs.length (flatR o.rs) → w.heap.size + 2 ≤ W.heap.size → Calls Tryz.prog 106 #[.agg #[.int .i64 o.m, .int .i64 o.c, .int .i64 o.t, .int .i64 o.ec, .bool o.sd, .bool o.ok, .bool o.sp, (Value.slice va o.rs.length vcap)], .int .i64 (K0 : Int), .string B] W fun en w' => ∃ v', en = .returned (.tuple #[.agg #[.int .i64 (takeO o (K0 : Int) B.data.toList).m, .int .i64 (takeO o (K0 : Int) B.data.toList).c, .int .i64 (takeO o (K0 : Int) B.data.toList).t, .int .i64 (takeO o (K0 : Int) B.data.toList).ec, .bool (takeO o (K0 : Int) B.data.toList).sd, .bool (takeO o (K0 : Int) B.data.toList).ok, .bool (takeO o (K0 : Int) B.data.toList).sp, v'], .bool (saysB (K0 : Int) B.data.toList)]) ∧ w'.ownsRow (w.heap.size + 2) 97 2 v' (takeO o (K0 : Int) B.data.toList).rs.length (flatR (takeO o (K0 : Int) B.data.toList).rs) ∧ ((takeO o (K0 : Int) B.data.toList).rs = [] → v' = .slice none 0 0) ∧ Below W.heap.size W w') := fun W h1 h2 => read_any o _ (K0 : Int) B _ W h1 HNIL.out hB40 hfo h2
            have HST : Hid (stepO o (K0 : Int) B.data.toList = if saysB (K0 : Int) B.data.toList = true then some (takeO o (K0 : Int) B.data.toList) else none) := by
              show _ = _
              unfold stepO
              rw [toList_size, hfo, Bool.true_and]
            have hrl : (takeO o (K0 : Int) B.data.toList).rs.length ≤ 40 := by
              unfold takeO
              split
              · show (pairsL B.data.toList).length ≤ 40; rw [pairs_len]; omega
              all_goals (repeat' split) <;> exact hr40
            generalize takeO o (K0 : Int) B.data.toList = o2 at *
            generalize saysB (K0 : Int) B.data.toList = SB at *
            have HRMH : Hid (runS x o = nextO (stepO o (K0 : Int) B.data.toList) y) := HRM
            clear HRM hfo
            go_wp2_with fail
            refine (HFT.out _).mono ?_
            rintro en w0 ⟨rfl, hw0⟩
            rw [hw0]
            clear hw0 w0
            go_wp2
            refine wp_region_any (by kernel_rfl) ?_
            refine region_facts (fun W => Below wr.heap.size wr W) (GV (fun i => match i with | 0 => .bool true | 1 => .bool false | 2 => .bool false | 3 => .agg #[.int .i64 o.m, .int .i64 o.c, .int .i64 o.t, .int .i64 o.ec, .bool o.sd, .bool o.ok, .bool o.sp, (Value.slice va o.rs.length vcap)] | 4 => .string x | 5 => .int .u8 (K0 : Int) | 6 => .int .i64 (K0 : Int) | 7 => .string B | 8 => .int .i64 (B.size : Int) | 9 => .bool true | 10 => .bool false | 11 => .bool false | _ => undef) (fun _ => none)) (n := 63) (by kernel_rfl) rfl (by kernel_rfl) (GV_later _ _) ?_ ?_ ((Below.refl _ _).drew) (Nat.le_refl _)
            · skip
              refine ⟨?_, ?_, ?_, ?_, ?_, ?_, ?_, ?_, ?_, ?_, ?_, ?_, trivial⟩
              · intro ac w1 hS hT hB hD K hK
                rw [if_pos (by rfl)]
                have d6 : ac.tmps.getD 6 undef = .bool true := hB 6 (by kernel_rfl)
                clear hB hD hT
                go_simp
                exact hK _ _ hS (Below.refl _ _) rfl
              · intro ac w1 hS hT hB hD K hK
                rw [if_pos (by rfl)]
                have d28 : ac.tmps.getD 28 undef = .bool true := hD ⟨0, .data⟩ (by simp) rfl _ 28 rfl rfl
                clear hB hD hT
                go_simp
                exact hK _ _ hS (Below.refl _ _) rfl
              · intro ac w1 hS hT hB hD K hK
                rw [if_pos (by rfl)]
                have d29 : ac.tmps.getD 29 undef = .bool false := hD ⟨1, .data⟩ (by simp) rfl _ 29 rfl rfl
                clear hB hD hT
                go_simp
                exact hK _ _ hS (Below.refl _ _) rfl
              · intro ac w1 hS hT hB hD K hK
                have g30 : ac.tmps.getD 30 undef = .bool false := hD ⟨2, .guard⟩ (by simp) rfl _ 30 rfl rfl
                rw [if_pos (want_t (j := 2) (d := 30) rfl rfl g30)]
                clear g30
                have d4 : ac.tmps.getD 4 undef = .pointer (some ⟨w.heap.size + 1, 0, none⟩) := hB 4 (by kernel_rfl)
                clear hB hD hT
                have hc := (HA.out.later hS).eight.1
                go_simp
                exact hK _ _ hS (Below.refl _ _) rfl
              · intro ac w1 hS hT hB hD K hK
                have g30 : ac.tmps.getD 30 undef = .bool false := hD ⟨2, .guard⟩ (by simp) rfl _ 30 rfl rfl
                rw [if_pos (want_t (j := 2) (d := 30) rfl rfl g30)]
                clear g30
                have d0 : ac.tmps.getD 0 undef = .string x := hB 0 (by kernel_rfl)
                clear hB hD hT
                go_simp
                exact hK _ _ hS (Below.refl _ _) rfl
              · intro ac w1 hS hT hB hD K hK
                have g30 : ac.tmps.getD 30 undef = .bool false := hD ⟨2, .guard⟩ (by simp) rfl _ 30 rfl rfl
                rw [if_pos (want_t (j := 2) (d := 30) rfl rfl g30)]
                clear g30
                have d32 : ac.tmps.getD 32 undef = .string x := hD ⟨4, .data⟩ (by simp) rfl _ 32 rfl rfl
                clear hB hD hT
                have hj0 : (0 : Int) < (x.size : Int) := by have := HX0.out; omega
                go_simp
                exact hK _ _ hS (Below.refl _ _) rfl
              · intro ac w1 hS hT hB hD K hK
                have g30 : ac.tmps.getD 30 undef = .bool false := hD ⟨2, .guard⟩ (by simp) rfl _ 30 rfl rfl
                rw [if_pos (want_t (j := 2) (d := 30) rfl rfl g30)]
                clear g30
                have d33 : ac.tmps.getD 33 undef = .int .u8 (K0 : Int) := hD ⟨5, .data⟩ (by simp) rfl _ 33 rfl rfl
                clear hB hD hT
                have hw0 : IntKind.i64.wrap (K0 : Int) = (K0 : Int) := by rw [IntKind.wrap_i64]; omega
                go_simp
                exact hK _ _ hS (Below.refl _ _) rfl
              · intro ac w1 hS hT hB hD K hK
                have g30 : ac.tmps.getD 30 undef = .bool false := hD ⟨2, .guard⟩ (by simp) rfl _ 30 rfl rfl
                rw [if_pos (want_t (j := 2) (d := 30) rfl rfl g30)]
                clear g30
                have d5 : ac.tmps.getD 5 undef = .string B := hB 5 (by kernel_rfl)
                clear hB hD hT
                go_simp
                exact hK _ _ hS (Below.refl _ _) rfl
              · intro ac w1 hS hT hB hD K hK
                have g30 : ac.tmps.getD 30 undef = .bool false := hD ⟨2, .guard⟩ (by simp) rfl _ 30 rfl rfl
                rw [if_pos (want_t (j := 2) (d := 30) rfl rfl g30)]
                clear g30
                have d35 : ac.tmps.getD 35 undef = .string B := hD ⟨7, .data⟩ (by simp) rfl _ 35 rfl rfl
                clear hB hD hT
                go_simp
                exact hK _ _ hS (Below.refl _ _) rfl
              · intro ac w1 hS hT hB hD K hK
                have g30 : ac.tmps.getD 30 undef = .bool false := hD ⟨2, .guard⟩ (by simp) rfl _ 30 rfl rfl
                rw [if_pos (want_t (j := 2) (d := 30) rfl rfl g30)]
                clear g30
                have d31 : ac.tmps.getD 31 undef = .agg #[.int .i64 o.m, .int .i64 o.c, .int .i64 o.t, .int .i64 o.ec, .bool o.sd, .bool o.ok, .bool o.sp, (Value.slice va o.rs.length vcap)] := hD ⟨3, .data⟩ (by simp) rfl _ 31 rfl rfl
                have d34 : ac.tmps.getD 34 undef = .int .i64 (K0 : Int) := hD ⟨6, .data⟩ (by simp) rfl _ 34 rfl rfl
                have d36 : ac.tmps.getD 36 undef = .int .i64 (B.size : Int) := hD ⟨8, .data⟩ (by simp) rfl _ 36 rfl rfl
                clear hB hD hT
                go_simp
                refine (HFO.out _).mono ?_
                rintro e w' ⟨rfl, hb⟩
                exact hK _ _ (bt hS hb) hb rfl
              · intro ac w1 hS hT hB hD K hK
                have g30 : ac.tmps.getD 30 undef = .bool false := hD ⟨2, .guard⟩ (by simp) rfl _ 30 rfl rfl
                rw [if_pos (want_t (j := 2) (d := 30) rfl rfl g30)]
                clear g30
                have d37 : ac.tmps.getD 37 undef = .bool true := hD ⟨9, .data⟩ (by simp) rfl _ 37 rfl rfl
                clear hB hD hT
                go_simp
                exact hK _ _ hS (Below.refl _ _) rfl
              · intro ac w1 hS hT hB hD K hK
                rw [if_pos (by rfl)]
                have d30 : ac.tmps.getD 30 undef = .bool false := hD ⟨2, .data⟩ (by simp) rfl _ 30 rfl rfl
                have d38 : ac.tmps.getD 38 undef = .bool false := hD ⟨10, .data⟩ (by simp) rfl _ 38 rfl rfl
                clear hB hD hT
                go_simp
                exact hK _ _ hS (Below.refl _ _) rfl
            · intro ac w8 hS8 hT hdf hB hF
              obtain ⟨⟨l⟩, df⟩ := ac
              match l, hT with
              | x0 :: x1 :: x2 :: x3 :: x4 :: x5 :: x6 :: x7 :: x8 :: x9 :: x10 :: x11 :: x12 :: x13 :: x14 :: x15 :: x16 :: x17 :: x18 :: x19 :: x20 :: x21 :: x22 :: x23 :: x24 :: x25 :: x26 :: x27 :: x28 :: x29 :: x30 :: x31 :: x32 :: x33 :: x34 :: x35 :: x36 :: x37 :: x38 :: x39 :: x40 :: x41 :: x42 :: x43 :: x44 :: x45 :: x46 :: x47 :: x48 :: x49 :: x50 :: x51 :: x52 :: x53 :: x54 :: x55 :: x56 :: x57 :: x58 :: x59 :: x60 :: x61 :: x62 :: [], _ =>
                have s0 : x0 = .string x := hB 0 (by kernel_rfl)
                have s1 : x1 = undef := hB 1 (by kernel_rfl)
                have s2 : x2 = .pointer (some ⟨w.heap.size, 0, none⟩) := hB 2 (by kernel_rfl)
                have s4 : x4 = .pointer (some ⟨w.heap.size + 1, 0, none⟩) := hB 4 (by kernel_rfl)
                have s5 : x5 = .string B := hB 5 (by kernel_rfl)
                have s6 : x6 = .bool true := hB 6 (by kernel_rfl)
                have s7 : x7 = .string s := hB 7 (by kernel_rfl)
                have s8 : x8 = .int .i64 (s.size : Int) := hB 8 (by kernel_rfl)
                have s9 : x9 = .bool false := hB 9 (by kernel_rfl)
                have s10 : x10 = undef := hB 10 (by kernel_rfl)
                have s58 : x58 = undef := hB 58 (by kernel_rfl)
                have s59 : x59 = undef := hB 59 (by kernel_rfl)
                have s60 : x60 = undef := hB 60 (by kernel_rfl)
                have s61 : x61 = undef := hB 61 (by kernel_rfl)
                have s62 : x62 = undef := hB 62 (by kernel_rfl)
                subst s0 s1 s2 s4 s5 s6 s7 s8 s9 s10 s58 s59 s60 s61 s62
                have s39 : x39 = .bool false := hF 11 _ 39 rfl rfl
                have sdf : df = [] := hdf
                subst s39 sdf
                clear hB hF hT
                have HA8 : Hid (At w8 (w.heap.size + 1) (OV o (Value.slice va o.rs.length vcap))) := HA.out.later hS8
                go_wp2
                refine wp_region_any (by kernel_rfl) ?_
                refine region_facts_then (fun W => Below w8.heap.size w8 W) (GV (fun i => match i with | 0 => .agg #[.int .i64 o.m, .int .i64 o.c, .int .i64 o.t, .int .i64 o.ec, .bool o.sd, .bool o.ok, .bool o.sp, (Value.slice va o.rs.length vcap)] | 1 => .string x | 2 => .int .u8 (K0 : Int) | 3 => .int .i64 (K0 : Int) | 4 => .string B | _ => undef) (fun _ => none)) (n := 63) 5 8 (by kernel_rfl) (by kernel_rfl) rfl (by kernel_rfl) (GV_later _ _) ?_ ?_ ((Below.refl _ _).drew) (Nat.le_refl _)
                · skip
                  refine ⟨?_, ?_, ?_, ?_, ?_, trivial⟩
                  · intro ac w1 hS hT hB hD K hK
                    rw [if_pos (by rfl)]
                    have d4 : ac.tmps.getD 4 undef = .pointer (some ⟨w.heap.size + 1, 0, none⟩) := hB 4 (by kernel_rfl)
                    clear hB hD hT
                    have hc := (HA8.out.later hS).eight.1
                    go_simp
                    exact hK _ _ hS (Below.refl _ _) rfl
                  · intro ac w1 hS hT hB hD K hK
                    rw [if_pos (by rfl)]
                    have d0 : ac.tmps.getD 0 undef = .string x := hB 0 (by kernel_rfl)
                    clear hB hD hT
                    go_simp
                    exact hK _ _ hS (Below.refl _ _) rfl
                  · intro ac w1 hS hT hB hD K hK
                    rw [if_pos (by rfl)]
                    have d43 : ac.tmps.getD 43 undef = .string x := hD ⟨1, .data⟩ (by simp) rfl _ 43 rfl rfl
                    clear hB hD hT
                    have hj0 : (0 : Int) < (x.size : Int) := by have := HX0.out; omega
                    go_simp
                    exact hK _ _ hS (Below.refl _ _) rfl
                  · intro ac w1 hS hT hB hD K hK
                    rw [if_pos (by rfl)]
                    have d44 : ac.tmps.getD 44 undef = .int .u8 (K0 : Int) := hD ⟨2, .data⟩ (by simp) rfl _ 44 rfl rfl
                    clear hB hD hT
                    have hw0 : IntKind.i64.wrap (K0 : Int) = (K0 : Int) := by rw [IntKind.wrap_i64]; omega
                    go_simp
                    exact hK _ _ hS (Below.refl _ _) rfl
                  · intro ac w1 hS hT hB hD K hK
                    rw [if_pos (by rfl)]
                    have d5 : ac.tmps.getD 5 undef = .string B := hB 5 (by kernel_rfl)
                    clear hB hD hT
                    go_simp
                    exact hK _ _ hS (Below.refl _ _) rfl
                · intro ac w10 hS10 hT hdf hB hF
                  obtain ⟨⟨l⟩, df⟩ := ac
                  match l, hT with
                  | x0 :: x1 :: x2 :: x3 :: x4 :: x5 :: x6 :: x7 :: x8 :: x9 :: x10 :: x11 :: x12 :: x13 :: x14 :: x15 :: x16 :: x17 :: x18 :: x19 :: x20 :: x21 :: x22 :: x23 :: x24 :: x25 :: x26 :: x27 :: x28 :: x29 :: x30 :: x31 :: x32 :: x33 :: x34 :: x35 :: x36 :: x37 :: x38 :: x39 :: x40 :: x41 :: x42 :: x43 :: x44 :: x45 :: x46 :: x47 :: x48 :: x49 :: x50 :: x51 :: x52 :: x53 :: x54 :: x55 :: x56 :: x57 :: x58 :: x59 :: x60 :: x61 :: x62 :: [], _ =>
                    have s0 : x0 = .string x := hB 0 (by kernel_rfl)
                    have s1 : x1 = undef := hB 1 (by kernel_rfl)
                    have s2 : x2 = .pointer (some ⟨w.heap.size, 0, none⟩) := hB 2 (by kernel_rfl)
                    have s4 : x4 = .pointer (some ⟨w.heap.size + 1, 0, none⟩) := hB 4 (by kernel_rfl)
                    have s5 : x5 = .string B := hB 5 (by kernel_rfl)
                    have s7 : x7 = .string s := hB 7 (by kernel_rfl)
                    have s8 : x8 = .int .i64 (s.size : Int) := hB 8 (by kernel_rfl)
                    have s9 : x9 = .bool false := hB 9 (by kernel_rfl)
                    have s10 : x10 = undef := hB 10 (by kernel_rfl)
                    have s58 : x58 = undef := hB 58 (by kernel_rfl)
                    have s59 : x59 = undef := hB 59 (by kernel_rfl)
                    have s60 : x60 = undef := hB 60 (by kernel_rfl)
                    have s61 : x61 = undef := hB 61 (by kernel_rfl)
                    have s62 : x62 = undef := hB 62 (by kernel_rfl)
                    subst s0 s1 s2 s4 s5 s7 s8 s9 s10 s58 s59 s60 s61 s62
                    have s42 : x42 = .agg #[.int .i64 o.m, .int .i64 o.c, .int .i64 o.t, .int .i64 o.ec, .bool o.sd, .bool o.ok, .bool o.sp, (Value.slice va o.rs.length vcap)] := hF 0 _ 42 (by decide) rfl rfl
                    have s43 : x43 = .string x := hF 1 _ 43 (by decide) rfl rfl
                    have s44 : x44 = .int .u8 (K0 : Int) := hF 2 _ 44 (by decide) rfl rfl
                    have s45 : x45 = .int .i64 (K0 : Int) := hF 3 _ 45 (by decide) rfl rfl
                    have s46 : x46 = .string B := hF 4 _ 46 (by decide) rfl rfl
                    have sdf : df = [] := hdf
                    subst s42 s43 s44 s45 s46 sdf
                    clear hB hF hT
                    have hbX := bt hS8 hS10
                    have hsz10 := Nat.le_trans hsz hbX.size
                    have hA10 := HA.out.later hbX
                    have hR10 := HR.out.later hbX
                    refine any_one (i := 5) (by kernel_rfl) (by rfl) ?_
                    intro Kc hKc
                    rw [if_pos (by rfl)]
                    go_simp
                    refine (HRD.out _ (own_later HOWN.out hbX) hsz10).mono ?_
                    rintro en w11 ⟨v2, rfl, ho2, hn2, hb2⟩
                    obtain ⟨va2, vcap2, hvv2, -, -⟩ := own_slice ho2
                    subst hvv2
                    obtain ⟨⟨c0, c1, c2, c3, c4, c5, c6, c7⟩, ⟨f0, f1, f2, f3, f4, f5, f6, f7⟩, -⟩ := (hA10.later hb2).eight
                    apply hKc
                    clear hKc Kc
                    refine any_one (i := 6) (by kernel_rfl) (by rfl) ?_
                    intro Kc hKc
                    rw [if_pos (by rfl)]
                    go_simp
                    apply hKc
                    clear hKc Kc
                    refine any_two (i := 7) (i2 := 8) (by kernel_rfl) (by rfl) (by rfl) ?_ ?_
                    · intro Kc hKc
                      rw [if_pos (by rfl)]
                      go_simp
                      apply hKc
                      clear hKc Kc
                      refine any_two (i := 8) (i2 := 9) (by kernel_rfl) (by rfl) (by rfl) ?_ ?_
                      · intro Kc hKc
                        rw [if_pos (by rfl)]
                        go_simp
                        apply hKc
                        clear hKc Kc
                        refine any_one (i := 9) (by kernel_rfl) (by rfl) ?_
                        intro Kc hKc
                        rw [if_pos (by rfl)]
                        go_simp
                        apply hKc
                        clear hKc Kc
                        refine any_one (i := 10) (by kernel_rfl) (by rfl) ?_
                        intro Kc hKc
                        rw [if_pos (by rfl)]
                        go_simp
                        apply hKc
                        clear hKc Kc
                        refine any_end (by kernel_rfl) ?_
                        have hbY := bt (bt hbl hbX) hb2
                        have hset := (hA10.later hb2).set8 (.int .i64 o2.m) (.int .i64 o2.c) (.int .i64 o2.t) (.int .i64 o2.ec) (.bool o2.sd) (.bool o2.ok) (.bool o2.sp) (.slice va2 o2.rs.length vcap2)
                        have hkeep := (hR10.later hb2).keep8 (b := w.heap.size + 1) (by omega) (.int .i64 o2.m) (.int .i64 o2.c) (.int .i64 o2.t) (.int .i64 o2.ec) (.bool o2.sd) (.bool o2.ok) (.bool o2.sp) (.slice va2 o2.rs.length vcap2)
                        cases SB
                        · have HRN : Hid (okO RN = none) := by show _ = _; rw [← HRUN.out, HRMH.out, HST.out]; rfl
                          obtain ⟨⟨r0, r1, r2, r3, r4, r5, r6, r7⟩, ⟨g0, g1, g2, g3, g4, g5, g6, g7⟩, -⟩ := (hkeep).eight
                          go_wp2
                          exact bodyPost_ret (v := .tuple #[.agg #[.int .i64 0, .int .i64 0, .int .i64 0, .int .i64 0, .bool false, .bool false, .bool false, .slice none 0 0], .int .i64 70]) (by simp [results, Tryz.results82, go_sem, r0, r1, r2, r3, r4, r5, r6, r7]) rfl (by rw [HRN.out]; exact ⟨rfl, below8 (below8 hbY (Nat.le_succ _) _ _ _ _ _ _ _ _) (Nat.le_refl _) _ _ _ _ _ _ _ _⟩)
                        · clear c0 c1 c2 c3 c4 c5 c6 c7 f0 f1 f2 f3 f4 f5 f6 f7
                          go_wp2
                          go_roundw
                          case rel => exact ⟨y, o2, _, by rw [HY.out], by omega, by rw [← HRUN.out, HRMH.out, HST.out]; rfl, below8 hbY (Nat.le_succ _) _ _ _ _ _ _ _ _, by simp only [World.size_setCell]; exact Nat.le_trans hsz10 hb2.size, hkeep, hset, own_set8 ho2 (w.heap.size + 1) (by omega) _ _ _ _ _ _ _ _, hn2, hrl⟩
                          case measure => simp [szOf, ByteArray.size_extract]; omega
                      · intro Kc hKc
                        rw [if_pos (by rfl)]
                        go_simp
                        apply hKc
                        clear hKc Kc
                        refine any_one (i := 8) (by kernel_rfl) (by rfl) ?_
                        intro Kc hKc
                        rw [if_pos (by rfl)]
                        go_simp
                        apply hKc
                        clear hKc Kc
                        refine any_one (i := 10) (by kernel_rfl) (by rfl) ?_
                        intro Kc hKc
                        rw [if_pos (by rfl)]
                        go_simp
                        apply hKc
                        clear hKc Kc
                        refine any_end (by kernel_rfl) ?_
                        have hbY := bt (bt hbl hbX) hb2
                        have hset := (hA10.later hb2).set8 (.int .i64 o2.m) (.int .i64 o2.c) (.int .i64 o2.t) (.int .i64 o2.ec) (.bool o2.sd) (.bool o2.ok) (.bool o2.sp) (.slice va2 o2.rs.length vcap2)
                        have hkeep := (hR10.later hb2).keep8 (b := w.heap.size + 1) (by omega) (.int .i64 o2.m) (.int .i64 o2.c) (.int .i64 o2.t) (.int .i64 o2.ec) (.bool o2.sd) (.bool o2.ok) (.bool o2.sp) (.slice va2 o2.rs.length vcap2)
                        cases SB
                        · have HRN : Hid (okO RN = none) := by show _ = _; rw [← HRUN.out, HRMH.out, HST.out]; rfl
                          obtain ⟨⟨r0, r1, r2, r3, r4, r5, r6, r7⟩, ⟨g0, g1, g2, g3, g4, g5, g6, g7⟩, -⟩ := (hkeep).eight
                          go_wp2
                          exact bodyPost_ret (v := .tuple #[.agg #[.int .i64 0, .int .i64 0, .int .i64 0, .int .i64 0, .bool false, .bool false, .bool false, .slice none 0 0], .int .i64 70]) (by simp [results, Tryz.results82, go_sem, r0, r1, r2, r3, r4, r5, r6, r7]) rfl (by rw [HRN.out]; exact ⟨rfl, below8 (below8 hbY (Nat.le_succ _) _ _ _ _ _ _ _ _) (Nat.le_refl _) _ _ _ _ _ _ _ _⟩)
                        · clear c0 c1 c2 c3 c4 c5 c6 c7 f0 f1 f2 f3 f4 f5 f6 f7
                          go_wp2
                          go_roundw
                          case rel => exact ⟨y, o2, _, by rw [HY.out], by omega, by rw [← HRUN.out, HRMH.out, HST.out]; rfl, below8 hbY (Nat.le_succ _) _ _ _ _ _ _ _ _, by simp only [World.size_setCell]; exact Nat.le_trans hsz10 hb2.size, hkeep, hset, own_set8 ho2 (w.heap.size + 1) (by omega) _ _ _ _ _ _ _ _, hn2, hrl⟩
                          case measure => simp [szOf, ByteArray.size_extract]; omega
                    · intro Kc hKc
                      rw [if_pos (by rfl)]
                      go_simp
                      apply hKc
                      clear hKc Kc
                      refine any_one (i := 7) (by kernel_rfl) (by rfl) ?_
                      intro Kc hKc
                      rw [if_pos (by rfl)]
                      go_simp
                      apply hKc
                      clear hKc Kc
                      refine any_one (i := 9) (by kernel_rfl) (by rfl) ?_
                      intro Kc hKc
                      rw [if_pos (by rfl)]
                      go_simp
                      apply hKc
                      clear hKc Kc
                      refine any_one (i := 10) (by kernel_rfl) (by rfl) ?_
                      intro Kc hKc
                      rw [if_pos (by rfl)]
                      go_simp
                      apply hKc
                      clear hKc Kc
                      refine any_end (by kernel_rfl) ?_
                      have hbY := bt (bt hbl hbX) hb2
                      have hset := (hA10.later hb2).set8 (.int .i64 o2.m) (.int .i64 o2.c) (.int .i64 o2.t) (.int .i64 o2.ec) (.bool o2.sd) (.bool o2.ok) (.bool o2.sp) (.slice va2 o2.rs.length vcap2)
                      have hkeep := (hR10.later hb2).keep8 (b := w.heap.size + 1) (by omega) (.int .i64 o2.m) (.int .i64 o2.c) (.int .i64 o2.t) (.int .i64 o2.ec) (.bool o2.sd) (.bool o2.ok) (.bool o2.sp) (.slice va2 o2.rs.length vcap2)
                      cases SB
                      · have HRN : Hid (okO RN = none) := by show _ = _; rw [← HRUN.out, HRMH.out, HST.out]; rfl
                        obtain ⟨⟨r0, r1, r2, r3, r4, r5, r6, r7⟩, ⟨g0, g1, g2, g3, g4, g5, g6, g7⟩, -⟩ := (hkeep).eight
                        go_wp2
                        exact bodyPost_ret (v := .tuple #[.agg #[.int .i64 0, .int .i64 0, .int .i64 0, .int .i64 0, .bool false, .bool false, .bool false, .slice none 0 0], .int .i64 70]) (by simp [results, Tryz.results82, go_sem, r0, r1, r2, r3, r4, r5, r6, r7]) rfl (by rw [HRN.out]; exact ⟨rfl, below8 (below8 hbY (Nat.le_succ _) _ _ _ _ _ _ _ _) (Nat.le_refl _) _ _ _ _ _ _ _ _⟩)
                      · clear c0 c1 c2 c3 c4 c5 c6 c7 f0 f1 f2 f3 f4 f5 f6 f7
                        go_wp2
                        go_roundw
                        case rel => exact ⟨y, o2, _, by rw [HY.out], by omega, by rw [← HRUN.out, HRMH.out, HST.out]; rfl, below8 hbY (Nat.le_succ _) _ _ _ _ _ _ _ _, by simp only [World.size_setCell]; exact Nat.le_trans hsz10 hb2.size, hkeep, hset, own_set8 ho2 (w.heap.size + 1) (by omega) _ _ _ _ _ _ _ _, hn2, hrl⟩
                        case measure => simp [szOf, ByteArray.size_extract]; omega
          · have HFO : Hid (∀ W, Calls Tryz.prog 105 #[.agg #[.int .i64 o.m, .int .i64 o.c, .int .i64 o.t, .int .i64 o.ec, .bool o.sd, .bool o.ok, .bool o.sp, (Value.slice va o.rs.length vcap)], .int .i64 (K0 : Int), .int .i64 (B.size : Int)] W fun e w' => e = .returned (.bool false) ∧ Below W.heap.size W w') := fun W => by
              have := follows_any o va vcap (K0 : Int) B.size W hB40
              rw [hfo] at this; exact this
            have HRN : Hid (okO RN = none) := by
              show _ = _
              rw [← HRUN.out, HRM]
              unfold stepO
              rw [toList_size, hfo]
              rfl
            clear HRM hfo
            go_wp2_with fail
            refine (HFT.out _).mono ?_
            rintro en w0 ⟨rfl, hw0⟩
            rw [hw0]
            clear hw0 w0
            go_wp2
            refine wp_region_any (by kernel_rfl) ?_
            refine region_facts (fun W => Below wr.heap.size wr W) (GV (fun i => match i with | 0 => .bool true | 1 => .bool false | 2 => .bool false | 3 => .agg #[.int .i64 o.m, .int .i64 o.c, .int .i64 o.t, .int .i64 o.ec, .bool o.sd, .bool o.ok, .bool o.sp, (Value.slice va o.rs.length vcap)] | 4 => .string x | 5 => .int .u8 (K0 : Int) | 6 => .int .i64 (K0 : Int) | 7 => .string B | 8 => .int .i64 (B.size : Int) | 9 => .bool false | 10 => .bool true | 11 => .bool true | _ => undef) (fun _ => none)) (n := 63) (by kernel_rfl) rfl (by kernel_rfl) (GV_later _ _) ?_ ?_ ((Below.refl _ _).drew) (Nat.le_refl _)
            · skip
              refine ⟨?_, ?_, ?_, ?_, ?_, ?_, ?_, ?_, ?_, ?_, ?_, ?_, trivial⟩
              · intro ac w1 hS hT hB hD K hK
                rw [if_pos (by rfl)]
                have d6 : ac.tmps.getD 6 undef = .bool true := hB 6 (by kernel_rfl)
                clear hB hD hT
                go_simp
                exact hK _ _ hS (Below.refl _ _) rfl
              · intro ac w1 hS hT hB hD K hK
                rw [if_pos (by rfl)]
                have d28 : ac.tmps.getD 28 undef = .bool true := hD ⟨0, .data⟩ (by simp) rfl _ 28 rfl rfl
                clear hB hD hT
                go_simp
                exact hK _ _ hS (Below.refl _ _) rfl
              · intro ac w1 hS hT hB hD K hK
                rw [if_pos (by rfl)]
                have d29 : ac.tmps.getD 29 undef = .bool false := hD ⟨1, .data⟩ (by simp) rfl _ 29 rfl rfl
                clear hB hD hT
                go_simp
                exact hK _ _ hS (Below.refl _ _) rfl
              · intro ac w1 hS hT hB hD K hK
                have g30 : ac.tmps.getD 30 undef = .bool false := hD ⟨2, .guard⟩ (by simp) rfl _ 30 rfl rfl
                rw [if_pos (want_t (j := 2) (d := 30) rfl rfl g30)]
                clear g30
                have d4 : ac.tmps.getD 4 undef = .pointer (some ⟨w.heap.size + 1, 0, none⟩) := hB 4 (by kernel_rfl)
                clear hB hD hT
                have hc := (HA.out.later hS).eight.1
                go_simp
                exact hK _ _ hS (Below.refl _ _) rfl
              · intro ac w1 hS hT hB hD K hK
                have g30 : ac.tmps.getD 30 undef = .bool false := hD ⟨2, .guard⟩ (by simp) rfl _ 30 rfl rfl
                rw [if_pos (want_t (j := 2) (d := 30) rfl rfl g30)]
                clear g30
                have d0 : ac.tmps.getD 0 undef = .string x := hB 0 (by kernel_rfl)
                clear hB hD hT
                go_simp
                exact hK _ _ hS (Below.refl _ _) rfl
              · intro ac w1 hS hT hB hD K hK
                have g30 : ac.tmps.getD 30 undef = .bool false := hD ⟨2, .guard⟩ (by simp) rfl _ 30 rfl rfl
                rw [if_pos (want_t (j := 2) (d := 30) rfl rfl g30)]
                clear g30
                have d32 : ac.tmps.getD 32 undef = .string x := hD ⟨4, .data⟩ (by simp) rfl _ 32 rfl rfl
                clear hB hD hT
                have hj0 : (0 : Int) < (x.size : Int) := by have := HX0.out; omega
                go_simp
                exact hK _ _ hS (Below.refl _ _) rfl
              · intro ac w1 hS hT hB hD K hK
                have g30 : ac.tmps.getD 30 undef = .bool false := hD ⟨2, .guard⟩ (by simp) rfl _ 30 rfl rfl
                rw [if_pos (want_t (j := 2) (d := 30) rfl rfl g30)]
                clear g30
                have d33 : ac.tmps.getD 33 undef = .int .u8 (K0 : Int) := hD ⟨5, .data⟩ (by simp) rfl _ 33 rfl rfl
                clear hB hD hT
                have hw0 : IntKind.i64.wrap (K0 : Int) = (K0 : Int) := by rw [IntKind.wrap_i64]; omega
                go_simp
                exact hK _ _ hS (Below.refl _ _) rfl
              · intro ac w1 hS hT hB hD K hK
                have g30 : ac.tmps.getD 30 undef = .bool false := hD ⟨2, .guard⟩ (by simp) rfl _ 30 rfl rfl
                rw [if_pos (want_t (j := 2) (d := 30) rfl rfl g30)]
                clear g30
                have d5 : ac.tmps.getD 5 undef = .string B := hB 5 (by kernel_rfl)
                clear hB hD hT
                go_simp
                exact hK _ _ hS (Below.refl _ _) rfl
              · intro ac w1 hS hT hB hD K hK
                have g30 : ac.tmps.getD 30 undef = .bool false := hD ⟨2, .guard⟩ (by simp) rfl _ 30 rfl rfl
                rw [if_pos (want_t (j := 2) (d := 30) rfl rfl g30)]
                clear g30
                have d35 : ac.tmps.getD 35 undef = .string B := hD ⟨7, .data⟩ (by simp) rfl _ 35 rfl rfl
                clear hB hD hT
                go_simp
                exact hK _ _ hS (Below.refl _ _) rfl
              · intro ac w1 hS hT hB hD K hK
                have g30 : ac.tmps.getD 30 undef = .bool false := hD ⟨2, .guard⟩ (by simp) rfl _ 30 rfl rfl
                rw [if_pos (want_t (j := 2) (d := 30) rfl rfl g30)]
                clear g30
                have d31 : ac.tmps.getD 31 undef = .agg #[.int .i64 o.m, .int .i64 o.c, .int .i64 o.t, .int .i64 o.ec, .bool o.sd, .bool o.ok, .bool o.sp, (Value.slice va o.rs.length vcap)] := hD ⟨3, .data⟩ (by simp) rfl _ 31 rfl rfl
                have d34 : ac.tmps.getD 34 undef = .int .i64 (K0 : Int) := hD ⟨6, .data⟩ (by simp) rfl _ 34 rfl rfl
                have d36 : ac.tmps.getD 36 undef = .int .i64 (B.size : Int) := hD ⟨8, .data⟩ (by simp) rfl _ 36 rfl rfl
                clear hB hD hT
                go_simp
                refine (HFO.out _).mono ?_
                rintro e w' ⟨rfl, hb⟩
                exact hK _ _ (bt hS hb) hb rfl
              · intro ac w1 hS hT hB hD K hK
                have g30 : ac.tmps.getD 30 undef = .bool false := hD ⟨2, .guard⟩ (by simp) rfl _ 30 rfl rfl
                rw [if_pos (want_t (j := 2) (d := 30) rfl rfl g30)]
                clear g30
                have d37 : ac.tmps.getD 37 undef = .bool false := hD ⟨9, .data⟩ (by simp) rfl _ 37 rfl rfl
                clear hB hD hT
                go_simp
                exact hK _ _ hS (Below.refl _ _) rfl
              · intro ac w1 hS hT hB hD K hK
                rw [if_pos (by rfl)]
                have d30 : ac.tmps.getD 30 undef = .bool false := hD ⟨2, .data⟩ (by simp) rfl _ 30 rfl rfl
                have d38 : ac.tmps.getD 38 undef = .bool true := hD ⟨10, .data⟩ (by simp) rfl _ 38 rfl rfl
                clear hB hD hT
                go_simp
                exact hK _ _ hS (Below.refl _ _) rfl
            · intro ac w8 hS8 hT hdf hB hF
              obtain ⟨⟨l⟩, df⟩ := ac
              match l, hT with
              | x0 :: x1 :: x2 :: x3 :: x4 :: x5 :: x6 :: x7 :: x8 :: x9 :: x10 :: x11 :: x12 :: x13 :: x14 :: x15 :: x16 :: x17 :: x18 :: x19 :: x20 :: x21 :: x22 :: x23 :: x24 :: x25 :: x26 :: x27 :: x28 :: x29 :: x30 :: x31 :: x32 :: x33 :: x34 :: x35 :: x36 :: x37 :: x38 :: x39 :: x40 :: x41 :: x42 :: x43 :: x44 :: x45 :: x46 :: x47 :: x48 :: x49 :: x50 :: x51 :: x52 :: x53 :: x54 :: x55 :: x56 :: x57 :: x58 :: x59 :: x60 :: x61 :: x62 :: [], _ =>
                have s0 : x0 = .string x := hB 0 (by kernel_rfl)
                have s1 : x1 = undef := hB 1 (by kernel_rfl)
                have s2 : x2 = .pointer (some ⟨w.heap.size, 0, none⟩) := hB 2 (by kernel_rfl)
                have s4 : x4 = .pointer (some ⟨w.heap.size + 1, 0, none⟩) := hB 4 (by kernel_rfl)
                have s5 : x5 = .string B := hB 5 (by kernel_rfl)
                have s6 : x6 = .bool true := hB 6 (by kernel_rfl)
                have s7 : x7 = .string s := hB 7 (by kernel_rfl)
                have s8 : x8 = .int .i64 (s.size : Int) := hB 8 (by kernel_rfl)
                have s9 : x9 = .bool false := hB 9 (by kernel_rfl)
                have s10 : x10 = undef := hB 10 (by kernel_rfl)
                have s58 : x58 = undef := hB 58 (by kernel_rfl)
                have s59 : x59 = undef := hB 59 (by kernel_rfl)
                have s60 : x60 = undef := hB 60 (by kernel_rfl)
                have s61 : x61 = undef := hB 61 (by kernel_rfl)
                have s62 : x62 = undef := hB 62 (by kernel_rfl)
                subst s0 s1 s2 s4 s5 s6 s7 s8 s9 s10 s58 s59 s60 s61 s62
                have s39 : x39 = .bool true := hF 11 _ 39 rfl rfl
                have sdf : df = [] := hdf
                subst s39 sdf
                clear hB hF hT
                obtain ⟨⟨r0, r1, r2, r3, r4, r5, r6, r7⟩, ⟨g0, g1, g2, g3, g4, g5, g6, g7⟩, -⟩ := (HR.out.later hS8).eight
                go_wp2
                exact bodyPost_ret (v := .tuple #[.agg #[.int .i64 0, .int .i64 0, .int .i64 0, .int .i64 0, .bool false, .bool false, .bool false, .slice none 0 0], .int .i64 70]) (by simp [results, Tryz.results82, go_sem, r0, r1, r2, r3, r4, r5, r6, r7]) rfl (by rw [HRN.out]; exact ⟨rfl, below8 (bt hbl hS8) (Nat.le_refl _) _ _ _ _ _ _ _ _⟩)
        · have HRN : Hid (okO RN = none) := by
            show _ = _
            rw [← HRUN.out, HRM, hf]
            rfl
          have HFT : Hid (∀ W, Calls Tryz.prog 104 #[.string x] W fun e w' => e = .returned (.tuple #[.string ⟨#[]⟩, .bool false]) ∧ w' = W) := fun W => first_f x W hx40 hf
          clear HRM hf
          go_wp2_with fail
          refine (HFT.out _).mono ?_
          rintro en w0 ⟨rfl, hw0⟩
          rw [hw0]
          clear hw0 w0
          go_wp2
          go_quiet (fail)
          have hq := below_drewN (Below.refl wr.heap.size wr) nq
          obtain ⟨⟨r0, r1, r2, r3, r4, r5, r6, r7⟩, ⟨g0, g1, g2, g3, g4, g5, g6, g7⟩, -⟩ := (HR.out.later hq).eight
          go_wp2
          exact bodyPost_ret (v := .tuple #[.agg #[.int .i64 0, .int .i64 0, .int .i64 0, .int .i64 0, .bool false, .bool false, .bool false, .slice none 0 0], .int .i64 70]) (by simp [results, Tryz.results82, go_sem, r0, r1, r2, r3, r4, r5, r6, r7]) rfl (by rw [HRN.out]; exact ⟨rfl, below8 (bt hbl hq) (Nat.le_refl _) _ _ _ _ _ _ _ _⟩)
end Go.Proofs.YtkpdmgoldngdaabGreatDoor

namespace Go.Proofs.YtkpdmgoldngdaabGreatDoor
open Go.RowKit
set_option maxRecDepth 100000

def runL (l : List UInt8) (o : Op) : Option Op := runO (l.length + 1) l o
theorem runL_zero (l : List UInt8) (o : Op) : runL (0 :: l) o = some o := by simp [runL, runO]
theorem runL_part (k n : UInt8) (b rest : List UInt8) (o o' : Op) (hk0 : ¬ k = 0) (hk1 : ¬ k = 1) (hn : n.toNat = b.length + 2) (hs : stepO o (k.toNat : Int) b = some o') : runL (k :: n :: (b ++ rest)) o = runL rest o' := by
  unfold runL
  rw [List.length_cons]
  conv => lhs; simp only [runO]
  rw [if_neg hk0, if_neg hk1, if_neg (by rw [List.length_append]; omega), hn, Nat.add_sub_cancel, List.take_left, List.drop_left, hs]
  exact runO_fuel _ _ _ _ (by simp only [List.length_cons, List.length_append]; omega) (by omega)
theorem runL_run (l : List UInt8) (o : Op) (f : Nat) (h : l.length < f) : runO f l o = runL l o := runO_fuel f l o (l.length + 1) h (by omega)
theorem pairs_rgL (rs : List (Int × Int)) (h : ∀ r ∈ rs, rgB r = true) : pairsL (rgL rs) = rs := by
  have key : ∀ (rs : List (Int × Int)), (∀ r ∈ rs, rgB r = true) → ∀ i r, rs[i]? = some r → numL (((rgL rs).drop (i * 8)).take 4) = r.1 ∧ numL (((rgL rs).drop (i * 8 + 4)).take 4) = r.2 := by
    intro rs
    induction rs with
    | nil => intro _ i r hr; simp at hr
    | cons q rs ih =>
      intro h i r hr
      have e : rgL (q :: rs) = txtL q.1 4 ++ (txtL q.2 4 ++ rgL rs) := by simp [rgL]
      have l1 : (txtL q.1 4).length = 4 := txtL_length _ _
      have l2 : (txtL q.2 4).length = 4 := txtL_length _ _
      obtain ⟨⟨a0, a1⟩, ⟨b0, b1⟩, -⟩ := rgB_t (h q (by simp))
      cases i with
      | zero =>
        simp only [List.getElem?_cons_zero, Option.some.injEq] at hr
        subst hr
        rw [e, Nat.zero_mul, List.drop_zero, Nat.zero_add]
        constructor
        · rw [List.take_left' l1]; exact num_txt _ 4 a0 (by show q.1 < 4294967296; omega)
        · rw [List.drop_left' l1, List.take_left' l2]; exact num_txt _ 4 b0 (by show q.2 < 4294967296; omega)
      | succ i =>
        simp only [List.getElem?_cons_succ] at hr
        obtain ⟨h1, h2⟩ := ih (fun r hr => h r (by simp [hr])) i r hr
        have d : ∀ j, (rgL (q :: rs)).drop (8 + j) = (rgL rs).drop j := by
          intro j
          rw [← List.drop_drop, e, ← List.append_assoc, List.drop_left' (by rw [List.length_append, l1, l2])]
        rw [show (i + 1) * 8 = 8 + i * 8 by omega, show 8 + i * 8 + 4 = 8 + (i * 8 + 4) by omega, d, d]
        exact ⟨h1, h2⟩
  unfold pairsL
  rw [rgL_len, Nat.mul_div_cancel _ (by decide)]
  apply List.ext_getElem?
  intro i
  by_cases hi : i < rs.length
  · rw [List.getElem?_map, List.getElem?_range hi, List.getElem?_eq_getElem hi]
    obtain ⟨h1, h2⟩ := key rs h i _ (List.getElem?_eq_getElem hi)
    simp only [Option.map_some, h1, h2]
  · rw [List.getElem?_eq_none (by simp; omega), List.getElem?_eq_none (by omega)]
theorem one_byte (n : Nat) (h : n < 256) : txtL (n : Int) 1 = [UInt8.ofNat n] ∧ (UInt8.ofNat n).toNat = n := by
  refine ⟨?_, by simp; omega⟩
  simp [txtL, byteAt]
  congr 1
  omega
set_option maxHeartbeats 1000000 in
theorem runL_bare (m c t ec : Int) (sd ok sp : Bool) (rs : List (Int × Int)) (h : mayO m c t ec sd ok sp rs = true) (rest : List UInt8) : runL (bareL m c t ec sd ok sp rs 5 ++ rest) Op.zero = runL rest ⟨m, c, t, ec, sd, ok, sp, rs⟩ := by
  have hn4 := mayO_short h
  obtain ⟨⟨h0, h1⟩, ⟨g0, g1⟩, hc, ⟨t0, t1⟩, ⟨e0, e1⟩, hp, -, hrr⟩ := mayO_t h
  have eb : bareL m c t ec sd ok sp rs 5 = partL m c t ec sd ok sp rs 0 ++ (partL m c t ec sd ok sp rs 1 ++ (partL m c t ec sd ok sp rs 2 ++ (partL m c t ec sd ok sp rs 3 ++ partL m c t ec sd ok sp rs 4))) := by
    unfold bareL
    rw [show List.range 5 = [0, 1, 2, 3, 4] from rfl]
    simp
  rw [eb]
  simp only [List.append_assoc]
  -- MSS
  have s1 : ∀ r, runL (partL m c t ec sd ok sp rs 0 ++ r) Op.zero = runL r ⟨m, 0, 0, 0, false, false, false, []⟩ := by
    intro r
    by_cases hm : m = 0
    · subst hm; simp only [partL]; rw [if_neg (by simp)]; rfl
    · simp only [partL]
      rw [if_pos hm]
      have nm : numL (txtL m 2) = m := num_txt m 2 h0 (by show m < 65536; omega)
      refine runL_part 2 4 (txtL m 2) r _ _ (by decide) (by decide) (by rw [txtL_length]; rfl) ?_
      show stepO Op.zero 2 (txtL m 2) = _
      have hf : followsB Op.zero 2 (txtL m 2).length = true := by rw [txtL_length]; rfl
      have hs : saysB 2 (txtL m 2) = true := by simp [saysB, nm, hm]
      unfold stepO
      rw [hf, hs, Bool.and_self, if_pos rfl]
      simp [takeO, nm, Op.zero]
  have s2 : ∀ r, runL (partL m c t ec sd ok sp rs 1 ++ r) ⟨m, 0, 0, 0, false, false, false, []⟩ = runL r ⟨m, c, 0, 0, sd, false, false, []⟩ := by
    intro r
    cases sd with
    | false =>
      have hc0 : c = 0 := by simpa using hc
      subst hc0; simp only [partL]; rw [if_neg (by simp)]; rfl
    | true =>
      simp only [partL]
      rw [if_pos trivial]
      have nm : numL (txtL c 1) = c := num_txt c 1 g0 (by show c < 256; omega)
      refine runL_part 3 3 (txtL c 1) r _ _ (by decide) (by decide) (by rw [txtL_length]; rfl) ?_
      show stepO _ 3 (txtL c 1) = _
      have hf : followsB ⟨m, 0, 0, 0, false, false, false, []⟩ 3 (txtL c 1).length = true := by rw [txtL_length]; rfl
      have hs : saysB 3 (txtL c 1) = true := by simp [saysB]
      unfold stepO
      rw [hf, hs, Bool.and_self, if_pos rfl]
      simp [takeO, nm]
  have s3 : ∀ r, runL (partL m c t ec sd ok sp rs 2 ++ r) ⟨m, c, 0, 0, sd, false, false, []⟩ = runL r ⟨m, c, 0, 0, sd, ok, false, []⟩ := by
    intro r
    cases ok with
    | false => simp only [partL]; rw [if_neg (by simp)]; rfl
    | true =>
      simp only [partL]
      rw [if_pos trivial]
      refine runL_part 4 2 [] r _ _ (by decide) (by decide) rfl ?_
      show stepO _ 4 [] = _
      have hf : followsB ⟨m, c, 0, 0, sd, false, false, []⟩ 4 ([] : List UInt8).length = true := rfl
      have hs : saysB 4 [] = true := by simp [saysB]
      unfold stepO
      rw [hf, hs, Bool.and_self, if_pos rfl]
      simp [takeO]
  have s4 : ∀ r, runL (partL m c t ec sd ok sp rs 3 ++ r) ⟨m, c, 0, 0, sd, ok, false, []⟩ = runL r ⟨m, c, t, ec, sd, ok, sp, []⟩ := by
    intro r
    cases sp with
    | false =>
      obtain ⟨rfl, rfl⟩ : t = 0 ∧ ec = 0 := by simpa using hp
      simp only [partL]; rw [if_neg (by simp)]; rfl
    | true =>
      simp only [partL]
      rw [if_pos trivial]
      have n1 : numL (txtL t 4) = t := num_txt t 4 t0 (by show t < 4294967296; omega)
      have n2 : numL (txtL ec 4) = ec := num_txt ec 4 e0 (by show ec < 4294967296; omega)
      have l4 : (txtL t 4).length = 4 := txtL_length _ _
      have l8 : (txtL t 4 ++ txtL ec 4).length = 8 := by rw [List.length_append, txtL_length, txtL_length]
      refine runL_part 8 10 (txtL t 4 ++ txtL ec 4) r _ _ (by decide) (by decide) (by rw [l8]; rfl) ?_
      show stepO _ 8 (txtL t 4 ++ txtL ec 4) = _
      have hf : followsB ⟨m, c, 0, 0, sd, ok, false, []⟩ 8 (txtL t 4 ++ txtL ec 4).length = true := by rw [l8]; rfl
      have hs : saysB 8 (txtL t 4 ++ txtL ec 4) = true := by simp [saysB]
      unfold stepO
      rw [hf, hs, Bool.and_self, if_pos rfl]
      simp [takeO, List.take_left' l4, List.drop_left' l4, n1, n2]
  have s5 : ∀ r, runL (partL m c t ec sd ok sp rs 4 ++ r) ⟨m, c, t, ec, sd, ok, sp, []⟩ = runL r ⟨m, c, t, ec, sd, ok, sp, rs⟩ := by
    intro r
    by_cases hr : 0 < rs.length
    · simp only [partL]
      rw [if_pos hr]
      have hb := one_byte (2 + rs.length * 8) (by omega)
      rw [show (2 + (rs.length : Int) * 8) = ((2 + rs.length * 8 : Nat) : Int) by omega, hb.1]
      show runL (5 :: UInt8.ofNat (2 + rs.length * 8) :: (rgL rs ++ r)) _ = _
      refine runL_part 5 _ (rgL rs) r _ _ (by decide) (by decide) (by rw [hb.2, rgL_len]; omega) ?_
      show stepO _ 5 (rgL rs) = _
      have hf : followsB ⟨m, c, t, ec, sd, ok, sp, []⟩ 5 (rgL rs).length = true := by
        rw [rgL_len]
        unfold followsB
        rw [if_pos rfl, decide_eq_true (show rs.length * 8 ≠ 0 ∧ rs.length * 8 % 8 = 0 by omega)]
        rfl
      have hs : saysB 5 (rgL rs) = true := by simp [saysB]
      unfold stepO
      rw [hf, hs, Bool.and_self, if_pos rfl]
      simp [takeO, pairs_rgL rs hrr]
    · have hr0 : rs = [] := List.eq_nil_of_length_eq_zero (by omega)
      subst hr0
      simp only [partL]; rw [if_neg (by simp)]; rfl
  rw [s1, s2, s3, s4, s5]
theorem runL_zeros (o : Op) (k : Nat) : runL (List.replicate k 0) o = some o := by
  cases k with
  | zero => rfl
  | succ k => rw [List.replicate_succ]; exact runL_zero _ _
theorem decO_run (l : List UInt8) (o : Op) (hl : l.length ≤ 40) (hr : runL l Op.zero = some o) (hm : o.may = true) : decO l = some o := by
  unfold decO
  rw [if_neg (by omega), runL_run l Op.zero 41 (by omega), hr]
  simp [hm]
theorem dec_enc (m c t ec : Int) (sd ok sp : Bool) (rs : List (Int × Int)) (h : mayO m c t ec sd ok sp rs = true) : decO (encO m c t ec sd ok sp rs).data.toList = some ⟨m, c, t, ec, sd, ok, sp, rs⟩ := by
  have hz := encO_size m c t ec sd ok sp rs
  have h40 := (mayO_t h).2.2.2.2.2.2.1
  refine decO_run _ _ (by rw [toList_size, hz]; exact h40) ?_ h
  show runL (encL m c t ec sd ok sp rs) _ = _
  unfold encL
  rw [runL_bare m c t ec sd ok sp rs h, runL_zeros]
theorem decO_may {l : List UInt8} {o : Op} (h : decO l = some o) : o.may = true := by
  unfold decO at h
  split at h
  · cases h
  · split at h
    · cases h
    · split at h
      · rename_i hm; obtain rfl := Option.some.inj h; exact hm
      · cases h
end Go.Proofs.YtkpdmgoldngdaabGreatDoor
