/- The chapter's example. -/
import Derived.Test.YtlbdecjppgjdiaaDQi
namespace Go.Proofs.Ytlbdecjppgjdiaa
open Go.RowKit Go.Maps Go.Lib
set_option maxRecDepth 100000
set_option linter.unusedVariables false
set_option linter.unusedSimpArgs false


abbrev S10 : ByteArray := ⟨#[97, 98, 99, 100, 101, 102, 103, 104, 105, 106]⟩
abbrev Q0 (room left : Int) : Qu := ⟨room, left, 0, [], []⟩
theorem q0_fine {room left : Int} (r0 : 1 ≤ room) (r1 : room ≤ 65536) (l0 : 0 ≤ left) (l1 : left ≤ 4294967295) : (Q0 room left).Fine := ⟨r0, r1, l0, l1, by show ((0 : Nat) : Int) ≤ room; omega, Nat.le_refl _, List.Pairwise.nil, fun e he => by cases he⟩
theorem QX.eq {w : World} {R : Bk} {q : Nat} {Q Q' : Qu} {vb vp : Value} (h : QX w R q Q vb vp) (e : Q = Q') : QX w R q Q' vb vp := e ▸ h
theorem Qu.Fine.eq {Q Q' : Qu} (h : Q.Fine) (e : Q = Q') : Q'.Fine := e ▸ h
set_option maxHeartbeats 1000000 in
theorem works_any (w : World) : Calls Try.prog 9 #[] w fun e w' => e = .returned (.bool true) ∧ Below w.heap.size w w' := by
  have hc1 := new_t 10 8 w (by decide) (by decide) (by decide) (by decide)
  have f0 : (Q0 8 10).Fine := q0_fine (by decide) (by decide) (by decide) (by decide)
  have f1 := wrQ_fine f0 S10
  have f2 := sndQ_fine f1 (min (max 5 0 - ((wrQ (Q0 8 10) S10).sent : Int)) 3)
  have e1 : (wrN (Q0 8 10) S10 : Int) = 8 := by decide
  have ef : fullB (Q0 8 10) S10 = false := by decide
  have e2 : wrQ (Q0 8 10) S10 = ⟨8, 10, 0, [97, 98, 99, 100, 101, 102, 103, 104], []⟩ := rfl
  rw [e2] at f1
  have n1 : nxA ⟨8, 10, 0, [97, 98, 99, 100, 101, 102, 103, 104], []⟩ = 10 := by decide
  have n2 : strB (sndS ⟨8, 10, 0, [97, 98, 99, 100, 101, 102, 103, 104], []⟩ (min (max 5 0 - ((0 : Nat) : Int)) 3)) = ⟨#[97, 98, 99]⟩ := rfl
  have n3 : sndQ ⟨8, 10, 0, [97, 98, 99, 100, 101, 102, 103, 104], []⟩ (min (max 5 0 - ((0 : Nat) : Int)) 3) = ⟨8, 10, 3, [97, 98, 99, 100, 101, 102, 103, 104], []⟩ := rfl
  have f3 := (sndQ_fine f1 (min (max 5 0 - ((0 : Nat) : Int)) 3)).eq n3
  have m1 : nxA ⟨8, 10, 3, [97, 98, 99, 100, 101, 102, 103, 104], []⟩ = 13 := by decide
  have m2 : strB (sndS ⟨8, 10, 3, [97, 98, 99, 100, 101, 102, 103, 104], []⟩ (min (max 5 0 - ((3 : Nat) : Int)) 3)) = ⟨#[100, 101]⟩ := rfl
  have m3 : sndQ ⟨8, 10, 3, [97, 98, 99, 100, 101, 102, 103, 104], []⟩ (min (max 5 0 - ((3 : Nat) : Int)) 3) = ⟨8, 10, 5, [97, 98, 99, 100, 101, 102, 103, 104], []⟩ := rfl
  have f4 := (sndQ_fine f3 (min (max 5 0 - ((3 : Nat) : Int)) 3)).eq m3
  have p1 : placeB ⟨8, 10, 5, [97, 98, 99, 100, 101, 102, 103, 104], []⟩ 12 = true := by decide
  have p2 : (offN ⟨8, 10, 5, [97, 98, 99, 100, 101, 102, 103, 104], []⟩ 12 : Int) = 2 := by decide
  clear f2
  go_enter Try.func9, Try.ntmps9
  go_wp2_with fail
  refine hc1.mono ?_
  rintro e w1 ⟨rfl, hX1, hb1⟩
  have hc2 := write_t hX1 f0 (fun k h => Nat.le_trans hb1.size h) S10 (by decide) ef
  rw [e1, e2] at hc2
  generalize hz : w.heap.size = z at *
  go_wp2_with fail
  refine hc2.mono ?_
  rintro e w2 ⟨rfl, ⟨vb2, hX2⟩, ht2⟩
  have hc3 := next_any hX2 f1 5 3 (by decide) (by decide)
  dsimp only at hc3
  rw [n1, n2, n3] at hc3
  go_wp2_with fail
  refine hc3.mono ?_
  rintro e w3 ⟨rfl, hX3, ht3⟩
  have hc4 := next_any hX3 f3 5 3 (by decide) (by decide)
  dsimp only at hc4
  rw [m1, m2, m3] at hc4
  go_wp2_with fail
  refine hc4.mono ?_
  rintro e w4 ⟨rfl, hX4, ht4⟩
  have hc5 := ack_t hX4 f4 12 p1
  rw [p2] at hc5
  go_wp2_with fail
  refine hc5.mono ?_
  rintro e w5 ⟨rfl, -, ht5⟩
  go_wp2
  go_ret
  subst hz
  exact ⟨rfl, hb1.trans ((ht2.trans (ht3.trans (ht4.trans ht5))).below hb1.size (fun k h => h))⟩
end Go.Proofs.Ytlbdecjppgjdiaa
