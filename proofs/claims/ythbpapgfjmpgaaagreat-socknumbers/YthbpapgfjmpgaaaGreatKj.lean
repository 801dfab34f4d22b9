/- setup, Check, New. -/
import Derived.Test.YthbpapgfjmpgaaaGreatKi
namespace Go.Proofs.YthbpapgfjmpgaaaGreat
open Go.RowKit Go.Maps
set_option maxRecDepth 100000
set_option linter.unusedVariables false
set_option linter.unusedSimpArgs false


theorem setup_any (w : World) : Calls Tryz.prog 5 #[] w fun e w' => e = .returned (.agg #[.int .i64 20, .int .i64 60, .int .i64 1, .int .i64 8, .int .i64 4, .int .i64 40, .int .i64 20, .int .i64 10, .int .i64 7, .int .i64 8, .int .i64 20]) ∧ Below w.heap.size w w' := by
  go_enter Tryz.func5, Tryz.ntmps5
  go_wp2
  go_returns
  exact ⟨rfl, bel1 w _⟩
theorem from_t {a n b : Int} (w : World) (h0 : a ≤ n) (h1 : n ≤ b) : Calls Tryz.prog 19 #[.int .i64 a, .int .i64 n, .int .i64 b] w fun e w' => e = .returned (.bool true) ∧ w' = w := by
  go_enter Tryz.func19, Tryz.ntmps19
  go_wp2
  go_ret
  exact ⟨rfl, rfl⟩
theorem rto_t (w : World) : Calls Tryz.prog 20 #[.int .i64 8, .int .i64 4, .int .i64 40] w fun e w' => (∃ r, e = .returned (.tuple #[r, .int .i64 0])) ∧ Below w.heap.size w w' := by
  go_enter Tryz.func20, Tryz.ntmps20
  go_wp2
  go_ret2
  exact ⟨⟨_, rfl⟩, bel1 w _⟩
theorem check_t (w : World) : Calls Tryz.prog 14 #[.agg #[.int .i64 20, .int .i64 60, .int .i64 1, .int .i64 8, .int .i64 4, .int .i64 40, .int .i64 20, .int .i64 10]] w fun e w' => e = .returned (.int .i64 0) ∧ Below w.heap.size w w' := by
  have q1 := bel1 w (.cells #[.int .i64 20, .int .i64 60, .int .i64 1, .int .i64 8, .int .i64 4, .int .i64 40, .int .i64 20, .int .i64 10] 28)
  have hA := At.box w #[.int .i64 20, .int .i64 60, .int .i64 1, .int .i64 8, .int .i64 4, .int .i64 40, .int .i64 20, .int .i64 10] 28
  go_enter Tryz.func14, Tryz.ntmps14
  go_upto_region 1 with fail
  generalize w.alloc (.cells #[.int .i64 20, .int .i64 60, .int .i64 1, .int .i64 8, .int .i64 4, .int .i64 40, .int .i64 20, .int .i64 10] 28) = x1 at *
  obtain ⟨A, hAe⟩ : ∃ x, x = w.heap.size := ⟨_, rfl⟩
  rw [← hAe] at hA ⊢
  clear hAe
  have c0 : x1.cell? ⟨A, 0, none⟩ = some (.int .i64 20) := (hA.2 0 _ rfl).1
  have c1 : x1.cell? ⟨A, 1, none⟩ = some (.int .i64 60) := (hA.2 1 _ rfl).1
  have c2 : x1.cell? ⟨A, 2, none⟩ = some (.int .i64 1) := (hA.2 2 _ rfl).1
  have c3 : x1.cell? ⟨A, 3, none⟩ = some (.int .i64 8) := (hA.2 3 _ rfl).1
  have c4 : x1.cell? ⟨A, 4, none⟩ = some (.int .i64 4) := (hA.2 4 _ rfl).1
  have c5 : x1.cell? ⟨A, 5, none⟩ = some (.int .i64 40) := (hA.2 5 _ rfl).1
  have c6 : x1.cell? ⟨A, 6, none⟩ = some (.int .i64 20) := (hA.2 6 _ rfl).1
  have c7 : x1.cell? ⟨A, 7, none⟩ = some (.int .i64 10) := (hA.2 7 _ rfl).1
  clear hA
  go_wp2_with fail
  refine (from_t (a := 1) (n := 20) (b := 1460) x1 (by decide) (by decide)).mono ?_
  rintro e x2 ⟨rfl, rfl⟩
  go_wp2_with fail
  refine (from_t (a := 1) (n := 60) (b := 65535) x2 (by decide) (by decide)).mono ?_
  rintro e x3 ⟨rfl, rfl⟩
  go_wp2_with fail
  refine (from_t (a := 0) (n := 1) (b := 1048576) x3 (by decide) (by decide)).mono ?_
  rintro e x4 ⟨rfl, rfl⟩
  go_wp2_with fail
  refine (from_t (a := 0) (n := 20) (b := 32) x4 (by decide) (by decide)).mono ?_
  rintro e x5 ⟨rfl, rfl⟩
  go_wp2_with fail
  refine (from_t (a := 1) (n := 10) (b := 1048576) x5 (by decide) (by decide)).mono ?_
  rintro e x6 ⟨rfl, rfl⟩
  go_wp2_with fail
  refine (rto_t x6).mono ?_
  rintro e x7 ⟨⟨r, rfl⟩, hb⟩
  clear c0 c1 c2 c3 c4 c5 c6 c7
  go_wp2
  go_ret
  exact ⟨rfl, bt q1 hb⟩
theorem ip_t (w : World) : Calls Tryz.prog 16 #[.int .i64 11] w fun e w' => e = .returned (.bool true) ∧ w' = w := by
  go_enter Tryz.func16, Tryz.ntmps16
  go_wp2_with fail
  refine (fits_t (a := 0) (n := 11) (b := 4294967295) w (by decide) (by decide)).mono ?_
  rintro e w1 ⟨rfl, rfl⟩
  go_wp2
  go_ret
  exact ⟨rfl, rfl⟩
set_option maxHeartbeats 1000000 in
theorem tnew_t (w : World) : Calls Tryz.prog 11 #[.agg #[.int .i64 20, .int .i64 60, .int .i64 1, .int .i64 8, .int .i64 4, .int .i64 40, .int .i64 20, .int .i64 10, .int .i64 7, .int .i64 8, .int .i64 20], .int .i64 11] w fun e w' => ∃ T L M, e = .returned (.tuple #[PB T, .int .i64 0]) ∧ TX w' T L M [] ∧ w.heap.size ≤ T ∧ w.heap.size ≤ L ∧ w.heap.size ≤ M ∧ Below w.heap.size w w' := by
  have hmm := @run_makeMap Tryz.prog
  have q1 := bel1 w (.cells #[.int .i64 20, .int .i64 60, .int .i64 1, .int .i64 8, .int .i64 4, .int .i64 40, .int .i64 20, .int .i64 10, .int .i64 7, .int .i64 8, .int .i64 20] 30)
  have hA := At.box w #[.int .i64 20, .int .i64 60, .int .i64 1, .int .i64 8, .int .i64 4, .int .i64 40, .int .i64 20, .int .i64 10, .int .i64 7, .int .i64 8, .int .i64 20] 30
  go_enter Tryz.func11, Tryz.ntmps11
  go_upto_region 1 with fail
  generalize w.alloc (.cells #[.int .i64 20, .int .i64 60, .int .i64 1, .int .i64 8, .int .i64 4, .int .i64 40, .int .i64 20, .int .i64 10, .int .i64 7, .int .i64 8, .int .i64 20] 30) = x1 at *
  obtain ⟨A, hAe⟩ : ∃ x, x = w.heap.size := ⟨_, rfl⟩
  rw [← hAe] at hA ⊢
  have hAl : w.heap.size ≤ A := by omega
  clear hAe
  have c0 : x1.cell? ⟨A, 0, none⟩ = some (.int .i64 20) := (hA.2 0 _ rfl).1
  have c1 : x1.cell? ⟨A, 1, none⟩ = some (.int .i64 60) := (hA.2 1 _ rfl).1
  have c2 : x1.cell? ⟨A, 2, none⟩ = some (.int .i64 1) := (hA.2 2 _ rfl).1
  have c3 : x1.cell? ⟨A, 3, none⟩ = some (.int .i64 8) := (hA.2 3 _ rfl).1
  have c4 : x1.cell? ⟨A, 4, none⟩ = some (.int .i64 4) := (hA.2 4 _ rfl).1
  have c5 : x1.cell? ⟨A, 5, none⟩ = some (.int .i64 40) := (hA.2 5 _ rfl).1
  have c6 : x1.cell? ⟨A, 6, none⟩ = some (.int .i64 20) := (hA.2 6 _ rfl).1
  have c7 : x1.cell? ⟨A, 7, none⟩ = some (.int .i64 10) := (hA.2 7 _ rfl).1
  have c8 : x1.cell? ⟨A, 8, none⟩ = some (.int .i64 7) := (hA.2 8 _ rfl).1
  have c9 : x1.cell? ⟨A, 9, none⟩ = some (.int .i64 8) := (hA.2 9 _ rfl).1
  have c10 : x1.cell? ⟨A, 10, none⟩ = some (.int .i64 20) := (hA.2 10 _ rfl).1
  go_wp2_with fail
  refine (check_t x1).mono ?_
  rintro e x2 ⟨rfl, hb⟩
  have hA := hA.later hb
  have q2 := bt q1 hb
  clear c0 c1 c2 c3 c4 c5 c6 c7 c8 c9 c10
  have c0 : x2.cell? ⟨A, 0, none⟩ = some (.int .i64 20) := (hA.2 0 _ rfl).1
  have c1 : x2.cell? ⟨A, 1, none⟩ = some (.int .i64 60) := (hA.2 1 _ rfl).1
  have c2 : x2.cell? ⟨A, 2, none⟩ = some (.int .i64 1) := (hA.2 2 _ rfl).1
  have c3 : x2.cell? ⟨A, 3, none⟩ = some (.int .i64 8) := (hA.2 3 _ rfl).1
  have c4 : x2.cell? ⟨A, 4, none⟩ = some (.int .i64 4) := (hA.2 4 _ rfl).1
  have c5 : x2.cell? ⟨A, 5, none⟩ = some (.int .i64 40) := (hA.2 5 _ rfl).1
  have c6 : x2.cell? ⟨A, 6, none⟩ = some (.int .i64 20) := (hA.2 6 _ rfl).1
  have c7 : x2.cell? ⟨A, 7, none⟩ = some (.int .i64 10) := (hA.2 7 _ rfl).1
  have c8 : x2.cell? ⟨A, 8, none⟩ = some (.int .i64 7) := (hA.2 8 _ rfl).1
  have c9 : x2.cell? ⟨A, 9, none⟩ = some (.int .i64 8) := (hA.2 9 _ rfl).1
  have c10 : x2.cell? ⟨A, 10, none⟩ = some (.int .i64 20) := (hA.2 10 _ rfl).1
  clear hb
  go_wp2_with fail
  refine (fits_t (a := 0) (n := 7) (b := 4294967295) x2 (by decide) (by decide)).mono ?_
  rintro e x3 ⟨rfl, rfl⟩
  go_wp2_with fail
  refine (fits_t (a := 1) (n := 8) (b := 64) x3 (by decide) (by decide)).mono ?_
  rintro e x4 ⟨rfl, rfl⟩
  go_wp2_with fail
  refine (fits_t (a := 1) (n := 20) (b := 256) x4 (by decide) (by decide)).mono ?_
  rintro e x5 ⟨rfl, rfl⟩
  go_wp2_with fail
  refine (ip_t x5).mono ?_
  rintro e x6 ⟨rfl, rfl⟩
  go_wp2
  go_ret2
  have h1 := bel1 x6 (.map #[] 0)
  have h2 := bel1 (x6.alloc (.map #[] 0)) (.map #[] 0)
  have h3 := bel1 ((x6.alloc (.map #[] 0)).alloc (.map #[] 0)) (.cells (tabV x6.heap.size (x6.heap.size + 1)) 69)
  have z1 : (x6.alloc (.map #[] 0)).heap.size = x6.heap.size + 1 := World.size_alloc _ _
  have z2 : ((x6.alloc (.map #[] 0)).alloc (.map #[] 0)).heap.size = x6.heap.size + 2 := by rw [World.size_alloc, z1]
  have A3 := At.box ((x6.alloc (.map #[] 0)).alloc (.map #[] 0)) (tabV x6.heap.size (x6.heap.size + 1)) 69
  have M2 := heap_alloc_new (x6.alloc (.map #[] 0)) (.map #[] 0)
  have V1 := (VM.made x6).later (bt h2 h3)
  rw [z1] at M2
  have E1 := (h3.block (x6.heap.size + 1) (by omega)).trans M2
  rw [z2] at A3
  have hs := q2.size
  exact ⟨x6.heap.size + 2, x6.heap.size, x6.heap.size + 1, by first | rfl | (rw [z2]), ⟨A3, V1, E1, by omega, by omega, by omega⟩, by omega, by omega, by omega, bt q2 (bt h1 (bt h2 h3))⟩
theorem rep_at (n : Nat) (a b c : Value) (i : Nat) (h : i < n) : ((a :: (List.replicate n c ++ [b])).toArray)[1 + i]? = some c := by
  rw [Nat.add_comm, List.getElem?_toArray, List.getElem?_cons_succ, List.getElem?_append_left (by simpa using h), List.getElem?_replicate, if_pos h]
/-- The cells of a box without sockets. -/
theorem new_cells (T : Nat) (w : World) (x : World) (B : Nat) (h : At x B #[PB T, .nilIface, .nilIface, .nilIface, .nilIface, .nilIface, .nilIface, .nilIface, .nilIface, .nilIface, .nilIface, .nilIface, .nilIface, .nilIface, .nilIface, .nilIface, .nilIface, .nilIface, .nilIface, .nilIface, .nilIface, .nilIface, .nilIface, .nilIface, .nilIface, .nilIface, .nilIface, .nilIface, .nilIface, .nilIface, .nilIface, .nilIface, .nilIface, .nilIface, .nilIface, .nilIface, .nilIface, .nilIface, .nilIface, .nilIface, .nilIface, .nilIface, .nilIface, .nilIface, .nilIface, .nilIface, .nilIface, .nilIface, .nilIface, .nilIface, .nilIface, .nilIface, .nilIface, .nilIface, .nilIface, .nilIface, .nilIface, .nilIface, .nilIface, .nilIface, .nilIface, .nilIface, .nilIface, .nilIface, .nilIface, .slice none 0 0]) : BX x B T (fun _ => 0) (.slice none 0 0) := by
  have e : (#[PB T, .nilIface, .nilIface, .nilIface, .nilIface, .nilIface, .nilIface, .nilIface, .nilIface, .nilIface, .nilIface, .nilIface, .nilIface, .nilIface, .nilIface, .nilIface, .nilIface, .nilIface, .nilIface, .nilIface, .nilIface, .nilIface, .nilIface, .nilIface, .nilIface, .nilIface, .nilIface, .nilIface, .nilIface, .nilIface, .nilIface, .nilIface, .nilIface, .nilIface, .nilIface, .nilIface, .nilIface, .nilIface, .nilIface, .nilIface, .nilIface, .nilIface, .nilIface, .nilIface, .nilIface, .nilIface, .nilIface, .nilIface, .nilIface, .nilIface, .nilIface, .nilIface, .nilIface, .nilIface, .nilIface, .nilIface, .nilIface, .nilIface, .nilIface, .nilIface, .nilIface, .nilIface, .nilIface, .nilIface, .nilIface, .slice none 0 0] : Array Value) = (PB T :: (List.replicate 64 Value.nilIface ++ [.slice none 0 0])).toArray := rfl
  refine ⟨h.1, (h.2 0 _ rfl).1, fun i hi => ?_, (h.2 65 _ rfl).1, (h.2 65 _ rfl).2⟩
  have : (#[PB T, .nilIface, .nilIface, .nilIface, .nilIface, .nilIface, .nilIface, .nilIface, .nilIface, .nilIface, .nilIface, .nilIface, .nilIface, .nilIface, .nilIface, .nilIface, .nilIface, .nilIface, .nilIface, .nilIface, .nilIface, .nilIface, .nilIface, .nilIface, .nilIface, .nilIface, .nilIface, .nilIface, .nilIface, .nilIface, .nilIface, .nilIface, .nilIface, .nilIface, .nilIface, .nilIface, .nilIface, .nilIface, .nilIface, .nilIface, .nilIface, .nilIface, .nilIface, .nilIface, .nilIface, .nilIface, .nilIface, .nilIface, .nilIface, .nilIface, .nilIface, .nilIface, .nilIface, .nilIface, .nilIface, .nilIface, .nilIface, .nilIface, .nilIface, .nilIface, .nilIface, .nilIface, .nilIface, .nilIface, .nilIface, .slice none 0 0] : Array Value)[1 + i]? = some .nilIface := by
    rw [e]
    exact rep_at 64 _ _ _ i hi
  exact h.2 (1 + i) _ this
set_option maxHeartbeats 1000000 in
theorem new_t (w : World) : Calls Tryz.prog 4 #[.agg #[.int .i64 20, .int .i64 60, .int .i64 1, .int .i64 8, .int .i64 4, .int .i64 40, .int .i64 20, .int .i64 10, .int .i64 7, .int .i64 8, .int .i64 20], .int .i64 11] w fun e w' => ∃ B T L M, e = .returned (.tuple #[PB B, .int .i64 0]) ∧ AK w' B T L M (fun _ => 0) (.slice none 0 0) [] ∧ w.heap.size ≤ B ∧ w.heap.size ≤ T ∧ w.heap.size ≤ L ∧ w.heap.size ≤ M ∧ Below w.heap.size w w' := by
  have q1 := bel1 w (.cells #[.int .i64 20, .int .i64 60, .int .i64 1, .int .i64 8, .int .i64 4, .int .i64 40, .int .i64 20, .int .i64 10, .int .i64 7, .int .i64 8, .int .i64 20] 30)
  have hA := At.box w #[.int .i64 20, .int .i64 60, .int .i64 1, .int .i64 8, .int .i64 4, .int .i64 40, .int .i64 20, .int .i64 10, .int .i64 7, .int .i64 8, .int .i64 20] 30
  go_enter Tryz.func4, Tryz.ntmps4
  go_upto_region 1 with fail
  generalize w.alloc (.cells #[.int .i64 20, .int .i64 60, .int .i64 1, .int .i64 8, .int .i64 4, .int .i64 40, .int .i64 20, .int .i64 10, .int .i64 7, .int .i64 8, .int .i64 20] 30) = x1 at *
  obtain ⟨A, hAe⟩ : ∃ x, x = w.heap.size := ⟨_, rfl⟩
  rw [← hAe] at hA ⊢
  have hAl : w.heap.size ≤ A := by omega
  clear hAe
  have c0 : x1.cell? ⟨A, 0, none⟩ = some (.int .i64 20) := (hA.2 0 _ rfl).1
  have c1 : x1.cell? ⟨A, 1, none⟩ = some (.int .i64 60) := (hA.2 1 _ rfl).1
  have c2 : x1.cell? ⟨A, 2, none⟩ = some (.int .i64 1) := (hA.2 2 _ rfl).1
  have c3 : x1.cell? ⟨A, 3, none⟩ = some (.int .i64 8) := (hA.2 3 _ rfl).1
  have c4 : x1.cell? ⟨A, 4, none⟩ = some (.int .i64 4) := (hA.2 4 _ rfl).1
  have c5 : x1.cell? ⟨A, 5, none⟩ = some (.int .i64 40) := (hA.2 5 _ rfl).1
  have c6 : x1.cell? ⟨A, 6, none⟩ = some (.int .i64 20) := (hA.2 6 _ rfl).1
  have c7 : x1.cell? ⟨A, 7, none⟩ = some (.int .i64 10) := (hA.2 7 _ rfl).1
  have c8 : x1.cell? ⟨A, 8, none⟩ = some (.int .i64 7) := (hA.2 8 _ rfl).1
  have c9 : x1.cell? ⟨A, 9, none⟩ = some (.int .i64 8) := (hA.2 9 _ rfl).1
  have c10 : x1.cell? ⟨A, 10, none⟩ = some (.int .i64 20) := (hA.2 10 _ rfl).1
  go_wp2_with fail
  refine (tnew_t x1).mono ?_
  rintro e x2 ⟨T, L, M, rfl, hT, hT1, hL1, hM1, hb⟩
  clear c0 c1 c2 c3 c4 c5 c6 c7 c8 c9 c10
  go_wp2
  go_ret2
  have q2 := bel1 x2 (.cells #[PB T, .nilIface, .nilIface, .nilIface, .nilIface, .nilIface, .nilIface, .nilIface, .nilIface, .nilIface, .nilIface, .nilIface, .nilIface, .nilIface, .nilIface, .nilIface, .nilIface, .nilIface, .nilIface, .nilIface, .nilIface, .nilIface, .nilIface, .nilIface, .nilIface, .nilIface, .nilIface, .nilIface, .nilIface, .nilIface, .nilIface, .nilIface, .nilIface, .nilIface, .nilIface, .nilIface, .nilIface, .nilIface, .nilIface, .nilIface, .nilIface, .nilIface, .nilIface, .nilIface, .nilIface, .nilIface, .nilIface, .nilIface, .nilIface, .nilIface, .nilIface, .nilIface, .nilIface, .nilIface, .nilIface, .nilIface, .nilIface, .nilIface, .nilIface, .nilIface, .nilIface, .nilIface, .nilIface, .nilIface, .nilIface, .slice none 0 0] 54)
  have hB := At.box x2 #[PB T, .nilIface, .nilIface, .nilIface, .nilIface, .nilIface, .nilIface, .nilIface, .nilIface, .nilIface, .nilIface, .nilIface, .nilIface, .nilIface, .nilIface, .nilIface, .nilIface, .nilIface, .nilIface, .nilIface, .nilIface, .nilIface, .nilIface, .nilIface, .nilIface, .nilIface, .nilIface, .nilIface, .nilIface, .nilIface, .nilIface, .nilIface, .nilIface, .nilIface, .nilIface, .nilIface, .nilIface, .nilIface, .nilIface, .nilIface, .nilIface, .nilIface, .nilIface, .nilIface, .nilIface, .nilIface, .nilIface, .nilIface, .nilIface, .nilIface, .nilIface, .nilIface, .nilIface, .nilIface, .nilIface, .nilIface, .nilIface, .nilIface, .nilIface, .nilIface, .nilIface, .nilIface, .nilIface, .nilIface, .nilIface, .slice none 0 0] 54
  have hs := hT.lt
  have q3 := q1.size
  have q4 := hb.size
  refine ⟨x2.heap.size, T, L, M, rfl, ⟨⟨new_cells T x2 _ _ hB, hT.later q2, by omega, by omega, by omega⟩, World.ownsRow_nil _ _ _ _, fun k hk => by cases hk⟩, by omega, by omega, by omega, by omega, bt q1 (bt hb q2)⟩
end Go.Proofs.YthbpapgfjmpgaaaGreat
