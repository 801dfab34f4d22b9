/- The document's side: Answer; AppAnswers. -/
import Derived.Test.YtadmpdeegnppjaaGreatDoorRk
import Derived.Test.YtadmpdeegnppjaaGreatDoorAm
namespace Go.Proofs.YtadmpdeegnppjaaGreatDoor
open Go.RowKit Go.Maps Go.Shelf Go.Lib
set_option maxRecDepth 100000
set_option linter.unusedVariables false
set_option linter.unusedSimpArgs false


section
variable {w : World}
theorem RY.made (w : World) : RY (w.alloc (.cells #[.slice none 0 0, .string ⟨#[]⟩, .bool false, .bool false] 28)) w.heap.size (.slice none 0 0) st0 :=
  ⟨At.box w _ _, PR.nil _, fun e => by cases e⟩
set_option maxHeartbeats 2000000 in
theorem ransA_any (d : By) : Calls Tryz.prog 16 #[.string (B d)] w fun e w' => e = .returned (.tuple #[.string (B (ansA d).1), .bool (ansA d).2]) ∧ Below w.heap.size w w' := by
  have h0 := RY.made w
  have hb0 := bel1 w (.cells #[.slice none 0 0, .string ⟨#[]⟩, .bool false, .bool false] 28)
  by_cases hd : d.length ≤ 65536
  · have hq : ansA d = ((takeF st0 d).1, (takeF st0 d).2.over) := if_pos hd
    rw [hq]
    clear hq
    have ht := rtake_any h0 ok0 rfl d hd
    obtain ⟨R, hR⟩ : ∃ R, R = takeF st0 d := ⟨_, rfl⟩
    rw [← hR] at ht ⊢
    clear hR h0
    have HB0 : Hid _ := hb0
    clear hb0
    go_enter Tryz.func16, Tryz.ntmps16
    go_wp2_with fail
    refine ht.mono ?_
    rintro e w2 ⟨rfl, v', r2, t2, -⟩
    obtain ⟨hlt, ⟨c0, c1, c2, c3⟩, -⟩ := r2.at_.four
    have hb2 : Below w.heap.size w w2 := HB0.out.trans (t2.below HB0.out.size (fun k hk e => by omega))
    have c3' : w2.drew.cell? ⟨w.heap.size, 3, none⟩ = some (.bool R.2.over) := c3
    have HB : Hid _ := hb2
    clear hb2 t2 r2 ht
    go_wp2
    go_region
    all_goals
      go_wp2
      go_ret2
      exact ⟨rfl, Below.drew HB.out⟩
  · have hq : ansA d = ([], false) := if_neg hd
    rw [hq]
    clear hq
    have hl := fun (b : Nat) (W : World) => rtake_long (w := W) (b := b) d (by omega)
    obtain ⟨hlt, ⟨c0, c1, c2, c3⟩, -⟩ := h0.at_.four
    have HB : Hid _ := hb0
    have c3' : (w.alloc (.cells #[.slice none 0 0, .string ⟨#[]⟩, .bool false, .bool false] 28)).drew.cell? ⟨w.heap.size, 3, none⟩ = some (.bool false) := c3
    clear h0 hb0
    go_enter Tryz.func16, Tryz.ntmps16
    go_wp2_with fail
    refine (hl _ _).mono ?_
    rintro e w2 ⟨rfl, rfl⟩
    go_wp2
    go_region
    all_goals
      go_wp2
      go_ret2
      exact ⟨rfl, Below.drew HB.out⟩
set_option maxHeartbeats 2000000 in
theorem answers_any (hE : Env w) (a0 : ByteArray) (hd : a0.size ≤ 140737488351232) : Calls Tryz.prog 4 #[.string a0] w fun e w' => e = .returned (.bool true) ∧ Below w.heap.size w w' := by
  obtain ⟨d, rfl⟩ : ∃ d, a0 = B d := ⟨_, (B_of a0).symm⟩
  have HE : Hid _ := hE
  have hW := fun (W : World) (hW : Env W) => works_any hW
  have hA := ansA_any hE d
  have hR := fun (W : World) => ransA_any (w := W) d
  have hsz := B_size d
  obtain ⟨q, hq⟩ : ∃ q, q = ansA d := ⟨_, rfl⟩
  simp only [← hq] at hA hR
  clear hq hE
  obtain ⟨x, f⟩ := q
  have qx : ((B x).toList == (B x).toList) = true := B_same x
  by_cases h1 : 5000 < d.length
  · have h1' : (5000 : Int) < ((B d).size : Int) := by omega
    by_cases h2 : d.length ≤ 65536
    · have h2' : ((B d).size : Int) ≤ 65536 := by omega
      clear hA hR hsz
      go_enter Tryz.func4, Tryz.ntmps4
      go_wp2_with fail
      refine (hW _ HE.out).mono ?_
      rintro e w1 ⟨rfl, hb⟩
      go_wp2
      go_ret
      exact ⟨rfl, hb⟩
    · have h2' : ¬ ((B d).size : Int) ≤ 65536 := by omega
      clear hsz
      go_enter Tryz.func4, Tryz.ntmps4
      go_wp2_with fail
      refine hA.mono ?_
      rintro e w1 ⟨rfl, hb1⟩
      go_wp2_with fail
      refine (hR _).mono ?_
      rintro e w2 ⟨rfl, hb2⟩
      have hb := bt hb1 hb2
      cases f
      all_goals
        go_wp2_with fail
        refine (hW _ (HE.out.later hb)).mono ?_
        rintro e w3 ⟨rfl, hb3⟩
        go_wp2
        go_ret
        exact ⟨rfl, bt hb hb3⟩
  · have h1' : ¬ (5000 : Int) < ((B d).size : Int) := by omega
    clear hsz
    go_enter Tryz.func4, Tryz.ntmps4
    go_wp2_with fail
    refine hA.mono ?_
    rintro e w1 ⟨rfl, hb1⟩
    go_wp2_with fail
    refine (hR _).mono ?_
    rintro e w2 ⟨rfl, hb2⟩
    have hb := bt hb1 hb2
    cases f
    all_goals
      go_wp2_with fail
      refine (hW _ (HE.out.later hb)).mono ?_
      rintro e w3 ⟨rfl, hb3⟩
      go_wp2
      go_ret
      exact ⟨rfl, bt hb hb3⟩
end
end Go.Proofs.YtadmpdeegnppjaaGreatDoor
