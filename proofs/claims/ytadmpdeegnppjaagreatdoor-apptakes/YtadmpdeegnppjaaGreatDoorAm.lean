/- Answer; the chapter's example. -/
import Derived.Test.YtadmpdeegnppjaaGreatDoorAl
namespace Go.Proofs.YtadmpdeegnppjaaGreatDoor
open Go.RowKit Go.Maps Go.Shelf Go.Lib
set_option maxRecDepth 100000
set_option linter.unusedVariables false
set_option linter.unusedSimpArgs false


/-- What is answered to bytes at once, and whether the session is over then. -/
def ansA (d : By) : By × Bool := if d.length ≤ 65536 then ((takeF st0 d).1, (takeF st0 d).2.over) else ([], false)
theorem itoa_one (n : Nat) (h : n < 10) : Go.Lib.itoa (n : Int) = [UInt8.ofNat (48 + n)] := by
  rw [Go.Lib.itoa_nonneg, Go.Lib.decDigits_one h]
theorem ansA_ex : ansA [80, 85, 84, 32, 97, 32, 49, 10, 65, 68, 68, 32, 97, 32, 50, 10, 71, 69, 84, 32, 97, 10, 81, 85, 73, 84, 10] = ([79, 75, 10, 86, 65, 76, 85, 69, 32, 51, 10, 86, 65, 76, 85, 69, 32, 51, 10, 66, 89, 69, 10], true) := by
  have n1 : numF [49] = some 1 := by rw [show ([49] : By) = Go.Lib.itoa 1 from (itoa_one 1 (by decide)).symm]; exact num_of (by decide) (by decide)
  have n2 : numF [50] = some 2 := by rw [show ([50] : By) = Go.Lib.itoa 2 from (itoa_one 2 (by decide)).symm]; exact num_of (by decide) (by decide)
  have i3 : Go.Lib.itoa (1 + 2) = [51] := itoa_one 3 (by decide)
  have q1 : endF (gath st0 [80, 85, 84, 32, 97, 32, 49]) = (bOK, ⟨[([97], [49])], [], false, false⟩) := by kernel_rfl
  have q2 : endF (gath ⟨[([97], [49])], [], false, false⟩ [65, 68, 68, 32, 97, 32, 50]) = (bVALUE ++ [51], ⟨[([97], [51])], [], false, false⟩) := by
    have r : readF [65, 68, 68, 32, 97, 32, 50] = some (cADD, [97], [50]) := by decide
    have a : addF [([97], [49])] [97] [50] = (bVALUE ++ [51], [([97], [51])]) := by
      have hv : valF [([97], [49])] [97] = [49] := by decide
      have hn : numV [49] = 1 := by unfold numV; rw [n1]; rfl
      unfold addF
      rw [n2, hv, hn]
      simp only
      rw [if_pos (by decide), i3]
      decide
    have an : ansF [([97], [49])] [65, 68, 68, 32, 97, 32, 50] = (bVALUE ++ [51], [([97], [51])], false) := by
      unfold ansF
      rw [r]
      simp only
      rw [if_neg (by decide), if_neg (by decide), if_neg (by decide), if_neg (by decide), if_neg (by decide), if_pos trivial, a]
    show endF ⟨[([97], [49])], [65, 68, 68, 32, 97, 32, 50], false, false⟩ = _
    unfold endF
    rw [if_neg (by decide)]
    simp only
    rw [an]
  have q3 : endF (gath ⟨[([97], [51])], [], false, false⟩ [71, 69, 84, 32, 97]) = (bVALUE ++ [51], ⟨[([97], [51])], [], false, false⟩) := by kernel_rfl
  have q4 : endF (gath ⟨[([97], [51])], [], false, false⟩ [81, 85, 73, 84]) = (bBYE, ⟨[([97], [51])], [], false, true⟩) := by kernel_rfl
  unfold ansA
  rw [if_pos (by decide)]
  have e0 : ([80, 85, 84, 32, 97, 32, 49, 10, 65, 68, 68, 32, 97, 32, 50, 10, 71, 69, 84, 32, 97, 10, 81, 85, 73, 84, 10] : By) = [80, 85, 84, 32, 97, 32, 49] ++ 10 :: ([65, 68, 68, 32, 97, 32, 50] ++ 10 :: ([71, 69, 84, 32, 97] ++ 10 :: ([81, 85, 73, 84] ++ 10 :: []))) := rfl
  have t1 := take_line st0 [80, 85, 84, 32, 97, 32, 49] ([65, 68, 68, 32, 97, 32, 50] ++ 10 :: ([71, 69, 84, 32, 97] ++ 10 :: ([81, 85, 73, 84] ++ 10 :: []))) rfl (by decide) (by decide)
  have t2 := take_line ⟨[([97], [49])], [], false, false⟩ [65, 68, 68, 32, 97, 32, 50] ([71, 69, 84, 32, 97] ++ 10 :: ([81, 85, 73, 84] ++ 10 :: [])) rfl (by decide) (by decide)
  have t3 := take_line ⟨[([97], [51])], [], false, false⟩ [71, 69, 84, 32, 97] ([81, 85, 73, 84] ++ 10 :: []) rfl (by decide) (by decide)
  have t4 := take_line ⟨[([97], [51])], [], false, false⟩ [81, 85, 73, 84] [] rfl (by decide) (by decide)
  rw [q1] at t1
  rw [q2] at t2
  rw [q3] at t3
  rw [q4] at t4
  simp only at t1 t2 t3 t4
  rw [e0, t1, t2, t3, t4]
  rfl
section
variable {w : World}
set_option maxHeartbeats 1000000 in
theorem ansA_any (hE : Env w) (d : By) : Calls Tryz.prog 15 #[.string (B d)] w fun e w' => e = .returned (.tuple #[.string (B (ansA d).1), .bool (ansA d).2]) ∧ Below w.heap.size w w' := by
  have HE : Hid _ := hE
  have hN := new_any hE
  clear hE
  by_cases hd : d.length ≤ 65536
  · have hq : ansA d = ((takeF st0 d).1, (takeF st0 d).2.over) := if_pos hd
    rw [hq]
    clear hq
    obtain ⟨R, hR⟩ : ∃ R, R = takeF st0 d := ⟨_, rfl⟩
    rw [← hR]
    have HR : Hid _ := hR
    clear hR
    go_enter Tryz.func15, Tryz.ntmps15
    go_wp2_with fail
    refine hN.mono ?_
    rintro e w1 ⟨b, A, rfl, h1, hb1, hA1⟩
    have ht := take_any h1 (HE.out.later hb1) ok0 rfl d hd
    rw [← HR.out] at ht
    go_wp2_with fail
    refine ht.mono ?_
    rintro e w2 ⟨rfl, A2, h2, t2, g2⟩
    obtain ⟨M, v, hY⟩ := h2
    obtain ⟨hlt, ⟨c0, c1, c2, c3⟩, -⟩ := hY.at_.four
    have hb2 : Below w.heap.size w w2 := hb1.trans (t2.below hb1.size (fun k hk e => by have := hA1 k e; omega))
    have c3' : w2.drew.cell? ⟨b, 3, none⟩ = some (.bool R.2.over) := c3
    have HB : Hid _ := hb2
    clear hY hb1 hb2 t2 g2 h1 ht hN
    go_wp2
    go_region
    all_goals
      go_wp2
      go_ret2
      exact ⟨rfl, Below.drew HB.out⟩
  · have hq : ansA d = ([], false) := if_neg hd
    rw [hq]
    clear hq
    have hl := fun (b : Nat) (W : World) => take_long (w := W) (b := b) d (by omega)
    go_enter Tryz.func15, Tryz.ntmps15
    go_wp2_with fail
    refine hN.mono ?_
    rintro e w1 ⟨b, A, rfl, h1, hb1, hA1⟩
    go_wp2_with fail
    refine (hl b w1).mono ?_
    rintro e w2 ⟨rfl, rfl⟩
    obtain ⟨M, v, hY⟩ := h1
    obtain ⟨hlt, ⟨c0, c1, c2, c3⟩, -⟩ := hY.at_.four
    have c3' : w2.drew.cell? ⟨b, 3, none⟩ = some (.bool false) := c3
    have HB : Hid _ := hb1
    clear hY hb1 hN hl
    go_wp2
    go_region
    all_goals
      go_wp2
      go_ret2
      exact ⟨rfl, Below.drew HB.out⟩
theorem works_any (hE : Env w) : Calls Tryz.prog 6 #[] w fun e w' => e = .returned (.bool true) ∧ Below w.heap.size w w' := by
  have hA := ansA_any hE [80, 85, 84, 32, 97, 32, 49, 10, 65, 68, 68, 32, 97, 32, 50, 10, 71, 69, 84, 32, 97, 10, 81, 85, 73, 84, 10]
  rw [ansA_ex] at hA
  have q : ((B [79, 75, 10, 86, 65, 76, 85, 69, 32, 51, 10, 86, 65, 76, 85, 69, 32, 51, 10, 66, 89, 69, 10]).toList == [79, 75, 10, 86, 65, 76, 85, 69, 32, 51, 10, 86, 65, 76, 85, 69, 32, 51, 10, 66, 89, 69, 10]) = true := B_q rfl
  clear hE
  go_enter Tryz.func6, Tryz.ntmps6
  go_wp2_with fail
  refine hA.mono ?_
  rintro e w1 ⟨rfl, hb⟩
  go_wp2
  go_ret
  exact ⟨rfl, hb⟩
end
end Go.Proofs.YtadmpdeegnppjaaGreatDoor
