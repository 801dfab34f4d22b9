/- The contracts of Turn and Pseudo, of package sum and of the document: each returns just the values named here; nothing that was there turns. -/
import Derived.Test.YtecoknenkjgmjabDoorSums
namespace Go.Proofs.YtecoknenkjgmjabDoor
open Go.RowKit
set_option maxRecDepth 100000

theorem out_cases (n a b : Int) : (outB n a b = true ∧ (n < a ∨ b < n)) ∨ (outB n a b = false ∧ a ≤ n ∧ n ≤ b) := by
  unfold outB
  by_cases h : n < a ∨ b < n
  · left; exact ⟨decide_eq_true h, h⟩
  · right; exact ⟨decide_eq_false h, by omega⟩

theorem pseudo_any (f t p l : Int) (w : World) :
    Calls Tryd.prog 25 #[.int .i64 f, .int .i64 t, .int .i64 p, .int .i64 l] w fun e w' => e = .returned (.tuple #[.string (pseuV f t p l), .int .i64 (codeB (pseuB f t p l))]) ∧ Below w.heap.size w w' := by
  unfold pseuV pseuB
  rcases out_cases f 0 4294967295 with ⟨h1, _⟩ | ⟨h1, f0, f1⟩
  · rw [h1]
    simp
    go_enter Tryd.func25, Tryd.ntmps25
    go_wp2_with (first | (go_at_call 47; refine (out_any _ _ _ _).mono ?_; rintro e w' ⟨rfl, rfl⟩))
    go_ret2
    exact ⟨rfl, Below.refl _ _⟩
  · rcases out_cases t 0 4294967295 with ⟨h2, _⟩ | ⟨h2, t0, t1⟩
    · rw [h1, h2]
      simp
      go_enter Tryd.func25, Tryd.ntmps25
      go_wp2_with (first | (go_at_call 47; refine (out_any _ _ _ _).mono ?_; rintro e w' ⟨rfl, rfl⟩))
      go_ret2
      exact ⟨rfl, Below.refl _ _⟩
    · rcases out_cases p 0 255 with ⟨h3, _⟩ | ⟨h3, p0, p1⟩
      · rw [h1, h2, h3]
        simp
        go_enter Tryd.func25, Tryd.ntmps25
        go_wp2_with (first | (go_at_call 47; refine (out_any _ _ _ _).mono ?_; rintro e w' ⟨rfl, rfl⟩))
        go_ret2
        exact ⟨rfl, Below.refl _ _⟩
      · rcases out_cases l 0 65535 with ⟨h4, _⟩ | ⟨h4, l0, l1⟩
        · rw [h1, h2, h3, h4]
          simp
          go_enter Tryd.func25, Tryd.ntmps25
          go_wp2_with (first | (go_at_call 47; refine (out_any _ _ _ _).mono ?_; rintro e w' ⟨rfl, rfl⟩))
          go_ret2
          exact ⟨rfl, Below.refl _ _⟩
        · rw [h1, h2, h3, h4]
          simp
          have z1 := txt_size f 4
          have z2 := txt_size t 4
          have z3 := txt_size p 2
          have z4 := txt_size l 2
          go_enter Tryd.func25, Tryd.ntmps25
          go_wp2_with (first | (go_at_call 47; refine (out_any _ _ _ _).mono ?_; rintro e w' ⟨rfl, rfl⟩))
          refine (put_any _ 4 _ (by decide) (by decide)).mono ?_
          rintro e w1 ⟨rfl, b1⟩
          go_wp2_with fail
          refine (put_any _ 4 _ (by decide) (by decide)).mono ?_
          rintro e w2 ⟨rfl, b2⟩
          go_wp2_with fail
          refine (put_any _ 2 _ (by decide) (by decide)).mono ?_
          rintro e w3 ⟨rfl, b3⟩
          go_wp2_with fail
          refine (put_any _ 2 _ (by decide) (by decide)).mono ?_
          rintro e w4 ⟨rfl, b4⟩
          go_wp2
          go_ret2
          exact ⟨rfl, bt (bt (bt b1 b2) b3) b4⟩

set_option maxHeartbeats 1000000 in
theorem rpseudo_any (f t p l : Int) (w : World) :
    Calls Tryd.prog 38 #[.int .i64 f, .int .i64 t, .int .i64 p, .int .i64 l] w fun e w' => e = .returned (.tuple #[.string (pseuV f t p l), .int .i64 (codeB (pseuB f t p l))]) ∧ Below w.heap.size w w' := by
  unfold pseuV pseuB
  have c1 : codeB (!true) = 1 := rfl
  have c0 : codeB (!false) = 0 := rfl
  rcases out_cases f 0 4294967295 with ⟨h1, _⟩ | ⟨h1, f0, f1⟩
  · have k1 : codeB (!outB f 0 4294967295) = 1 := by rw [h1]; rfl
    rw [h1]
    simp
    clear h1
    go_enter Tryd.func38, Tryd.ntmps38
    go_wp2_with (first | (go_at_call 32; refine (rcheck_any _ _).mono ?_; rw [k1]; rintro e w' ⟨rfl, rfl⟩))
    go_ret2
    exact ⟨rfl, Below.refl _ _⟩
  · have k1 : codeB (!outB f 0 4294967295) = 0 := by rw [h1]; rfl
    rcases out_cases t 0 4294967295 with ⟨h2, _⟩ | ⟨h2, t0, t1⟩
    · have k2 : codeB (!outB t 0 4294967295) = 1 := by rw [h2]; rfl
      rw [h1, h2]
      simp
      clear h1 h2
      go_enter Tryd.func38, Tryd.ntmps38
      go_wp2_with fail
      refine (rcheck_any _ _).mono ?_
      rw [k1]; rintro e w' ⟨rfl, rfl⟩
      go_wp2_with fail
      refine (rcheck_any _ _).mono ?_
      rw [k2]; rintro e w' ⟨rfl, rfl⟩
      go_wp2
      go_ret2
      exact ⟨rfl, Below.refl _ _⟩
    · have k2 : codeB (!outB t 0 4294967295) = 0 := by rw [h2]; rfl
      rcases out_cases p 0 255 with ⟨h3, h3'⟩ | ⟨h3, p0, p1⟩
      · rw [h1, h2, h3]
        simp
        clear h1 h2 h3
        rcases h3' with h | h
        all_goals
          go_enter Tryd.func38, Tryd.ntmps38
          go_wp2_with fail
          refine (rcheck_any _ _).mono ?_
          rw [k1]; rintro e w' ⟨rfl, rfl⟩
          go_wp2_with fail
          refine (rcheck_any _ _).mono ?_
          rw [k2]; rintro e w' ⟨rfl, rfl⟩
          go_wp2
          go_ret2
          exact ⟨rfl, Below.refl _ _⟩
      · rcases out_cases l 0 65535 with ⟨h4, h4'⟩ | ⟨h4, l0, l1⟩
        · rw [h1, h2, h3, h4]
          simp
          clear h1 h2 h3 h4
          rcases h4' with h | h
          all_goals
            go_enter Tryd.func38, Tryd.ntmps38
            go_wp2_with fail
            refine (rcheck_any _ _).mono ?_
            rw [k1]; rintro e w' ⟨rfl, rfl⟩
            go_wp2_with fail
            refine (rcheck_any _ _).mono ?_
            rw [k2]; rintro e w' ⟨rfl, rfl⟩
            go_wp2
            go_ret2
            exact ⟨rfl, Below.refl _ _⟩
        · rw [h1, h2, h3, h4]
          simp
          clear h1 h2 h3 h4
          have z1 := txt_size f 4
          have z2 := txt_size t 4
          have z3 := txt_size p 2
          have z4 := txt_size l 2
          go_enter Tryd.func38, Tryd.ntmps38
          go_wp2_with fail
          refine (rcheck_any _ _).mono ?_
          rw [k1]; rintro e w' ⟨rfl, rfl⟩
          go_wp2_with fail
          refine (rcheck_any _ _).mono ?_
          rw [k2]; rintro e w' ⟨rfl, rfl⟩
          go_wp2_with fail
          refine (rtext_any _ 4 _ (by decide) (by decide)).mono ?_
          rintro e w1 ⟨rfl, b1⟩
          go_wp2_with fail
          refine (rtext_any _ 4 _ (by decide) (by decide)).mono ?_
          rintro e w2 ⟨rfl, b2⟩
          go_wp2_with fail
          refine (rtext_any _ 2 _ (by decide) (by decide)).mono ?_
          rintro e w3 ⟨rfl, b3⟩
          go_wp2_with fail
          refine (rtext_any _ 2 _ (by decide) (by decide)).mono ?_
          rintro e w4 ⟨rfl, b4⟩
          go_wp2
          go_ret2
          exact ⟨rfl, bt (bt (bt b1 b2) b3) b4⟩
end Go.Proofs.YtecoknenkjgmjabDoor
