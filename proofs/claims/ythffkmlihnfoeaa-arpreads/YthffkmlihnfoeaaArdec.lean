/- The contract of the document's Decode of ARP packets: the packet that the bytes are; nothing that was there turns. -/
import Derived.Test.YthffkmlihnfoeaaAdec
import Derived.Deep.RegionHeld3
import Derived.Deep.QuietTactic
import Derived.BigQuiet
import Derived.WalkSmall
namespace Go.Proofs.Ythffkmlihnfoeaa
open Go.RowKit
set_option linter.unusedVariables false

theorem rhead_same (w : World) : Calls Try.prog 33 #[] w fun e w' => e = .returned (.string hdS) ∧ w' = w := by
  go_enter Try.func33, Try.ntmps33
  go_wp2
  go_ret
  exact ⟨rfl, rfl⟩

theorem At.drewN {W : World} {b : Nat} {vs : Array Value} (h : At W b vs) (n : Nat) : At (W.drewN n) b vs := h.later (below_drewN (Below.refl _ _) n)
theorem undrew {a b : World} (h : Below a.drew.heap.size a.drew b) : Below a.heap.size a b := bt ((Below.refl a.heap.size a).drew) h

set_option maxHeartbeats 1000000 in
theorem rdec_n1 {s : ByteArray} (h : s.size < 28 ∨ 46 < s.size ∨ (28 ≤ s.size ∧ s.size ≤ 46) ∧ preB s = false) (w : World) (hs : s.size ≤ maxLen) :
    Calls Try.prog 17 #[.string s] w fun e w' => e = .returned (.tuple #[.agg #[.int .i64 0, .int .i64 0, .int .i64 0, .int .i64 0, .int .i64 0], .int .i64 40]) ∧ Below w.heap.size w w' := by
  have hm := hs
  unfold maxLen at hs
  have hl := bel1 w (.cells #[.int .i64 0, .int .i64 0, .int .i64 0, .int .i64 0, .int .i64 0] 23)
  have hR := At.box w #[.int .i64 0, .int .i64 0, .int .i64 0, .int .i64 0, .int .i64 0] 23
  rcases h with h | h | ⟨⟨h, h2⟩, q⟩
  · have t1 : decide ((s.size : Int) < 28) = true := decide_eq_true (by omega)
    go_enter Try.func17, Try.ntmps17
    go_wp2
    go_quiet (fail)
    obtain ⟨⟨r0, r1, r2, r3, r4⟩, ⟨f0, f1, f2, f3, f4⟩, hlt⟩ := (hR.drewN nq).five
    have hl' := below_drewN hl nq
    generalize (w.alloc (.cells #[.int .i64 0, .int .i64 0, .int .i64 0, .int .i64 0, .int .i64 0] 23)).drewN nq = W0 at *
    go_wp2
    exact bodyPost_ret (v := .tuple #[.agg #[.int .i64 0, .int .i64 0, .int .i64 0, .int .i64 0, .int .i64 0], .int .i64 40]) (by simp [results, Try.results17, go_sem, r0, r1, r2, r3, r4]) rfl ⟨rfl, below5 hl' (Nat.le_refl _) _ _ _ _ _⟩
  · have t1 : decide ((s.size : Int) < 28) = false := decide_eq_false (by omega)
    have t2 : decide ((46 : Int) < s.size) = true := decide_eq_true (by omega)
    go_enter Try.func17, Try.ntmps17
    go_wp2
    go_quiet (fail)
    obtain ⟨⟨r0, r1, r2, r3, r4⟩, ⟨f0, f1, f2, f3, f4⟩, hlt⟩ := (hR.drewN nq).five
    have hl' := below_drewN hl nq
    generalize (w.alloc (.cells #[.int .i64 0, .int .i64 0, .int .i64 0, .int .i64 0, .int .i64 0] 23)).drewN nq = W0 at *
    go_wp2
    exact bodyPost_ret (v := .tuple #[.agg #[.int .i64 0, .int .i64 0, .int .i64 0, .int .i64 0, .int .i64 0], .int .i64 40]) (by simp [results, Try.results17, go_sem, r0, r1, r2, r3, r4]) rfl ⟨rfl, below5 hl' (Nat.le_refl _) _ _ _ _ _⟩
  · have t1 : decide ((s.size : Int) < 28) = false := decide_eq_false (by omega)
    have t2 : decide ((46 : Int) < s.size) = false := decide_eq_false (by omega)
    have q' : ((s.extract 0 6).toList == hdS.toList) = false := q
    have i6 : (6 : Int) ≤ (s.size : Int) := by omega
    go_enter Try.func17, Try.ntmps17
    go_wp2
    go_quiet ((go_at_call 33; refine Calls.quiet_of_same (rhead_same _)))
    obtain ⟨⟨r0, r1, r2, r3, r4⟩, ⟨f0, f1, f2, f3, f4⟩, hlt⟩ := (hR.drewN nq).five
    have hl' := below_drewN hl nq
    generalize (w.alloc (.cells #[.int .i64 0, .int .i64 0, .int .i64 0, .int .i64 0, .int .i64 0] 23)).drewN nq = W0 at *
    go_wp2
    exact bodyPost_ret (v := .tuple #[.agg #[.int .i64 0, .int .i64 0, .int .i64 0, .int .i64 0, .int .i64 0], .int .i64 40]) (by simp [results, Try.results17, go_sem, r0, r1, r2, r3, r4]) rfl ⟨rfl, below5 hl' (Nat.le_refl _) _ _ _ _ _⟩

def sO (s : ByteArray) : ByteArray := s.extract 6 8
def sFm (s : ByteArray) : ByteArray := s.extract 8 14
def sFi (s : ByteArray) : ByteArray := s.extract 14 18
def sTm (s : ByteArray) : ByteArray := s.extract 18 24
def sTi (s : ByteArray) : ByteArray := s.extract 24 28
theorem run_sl (s : ByteArray) (a b : Nat) (x : ByteArray) (hx : s.extract a b = x) (h : b ≤ s.size) (hab : a ≤ b) (hs : s.size ≤ 46) : ∀ W, (Instr.slice 9 (.string s) (some (.int .i64 (a : Int))) (some (.int .i64 (b : Int))) none).run Try.prog W = .ok (.string x) W := fun W => by
  rw [run_slice_string_if W 9 s .i64 .i64 a b Try.underlying9, if_pos ⟨by omega, by omega⟩, if_pos ⟨by omega, by omega⟩, ← hx]; rfl

set_option maxHeartbeats 2000000 in
theorem rdec_n2 {s : ByteArray} (h : 28 ≤ s.size) (h2 : s.size ≤ 46) (q : preB s = true) (g : mayS s = false) (w : World) :
    Calls Try.prog 17 #[.string s] w fun e w' => e = .returned (.tuple #[.agg #[.int .i64 0, .int .i64 0, .int .i64 0, .int .i64 0, .int .i64 0], .int .i64 40]) ∧ Below w.heap.size w w' := by
  have hl := bel1 w (.cells #[.int .i64 0, .int .i64 0, .int .i64 0, .int .i64 0, .int .i64 0] 23)
  have hR := At.box w #[.int .i64 0, .int .i64 0, .int .i64 0, .int .i64 0, .int .i64 0] 23
  have t1 : decide ((s.size : Int) < 28) = false := decide_eq_false (by omega)
  have t2 : decide ((46 : Int) < s.size) = false := decide_eq_false (by omega)
  have q' : ((s.extract 0 6).toList == hdS.toList) = true := q
  have i6 : (6 : Int) ≤ (s.size : Int) := by omega
  have q1 : ∀ W, (Instr.slice 9 (.string s) (some (.int .i64 6)) (some (.int .i64 8)) none).run Try.prog W = .ok (.string (sO s)) W := run_sl s 6 8 (sO s) rfl (by omega) (by omega) h2
  have q2 : ∀ W, (Instr.slice 9 (.string s) (some (.int .i64 8)) (some (.int .i64 14)) none).run Try.prog W = .ok (.string (sFm s)) W := run_sl s 8 14 (sFm s) rfl (by omega) (by omega) h2
  have q3 : ∀ W, (Instr.slice 9 (.string s) (some (.int .i64 14)) (some (.int .i64 18)) none).run Try.prog W = .ok (.string (sFi s)) W := run_sl s 14 18 (sFi s) rfl (by omega) (by omega) h2
  have q4 : ∀ W, (Instr.slice 9 (.string s) (some (.int .i64 18)) (some (.int .i64 24)) none).run Try.prog W = .ok (.string (sTm s)) W := run_sl s 18 24 (sTm s) rfl (by omega) (by omega) h2
  have q5 : ∀ W, (Instr.slice 9 (.string s) (some (.int .i64 24)) (some (.int .i64 28)) none).run Try.prog W = .ok (.string (sTi s)) W := run_sl s 24 28 (sTi s) rfl (by omega) (by omega) h2
  have zO : (sO s).size ≤ 6 := by unfold sO; rw [ByteArray.size_extract]; omega
  have zFm : (sFm s).size ≤ 6 := by unfold sFm; rw [ByteArray.size_extract]; omega
  have zFi : (sFi s).size ≤ 6 := by unfold sFi; rw [ByteArray.size_extract]; omega
  have zTm : (sTm s).size ≤ 6 := by unfold sTm; rw [ByteArray.size_extract]; omega
  have zTi : (sTi s).size ≤ 6 := by unfold sTi; rw [ByteArray.size_extract]; omega
  change mayA (numS (sO s)) (numS (sFm s)) (numS (sFi s)) (numS (sTm s)) (numS (sTi s)) = false at g
  skip
  generalize sO s = vO at *
  generalize sFm s = vFm at *
  generalize sFi s = vFi at *
  generalize sTm s = vTm at *
  generalize sTi s = vTi at *
  go_enter Try.func17, Try.ntmps17
  go_wp2
  go_quiet ((go_at_call 33; refine Calls.quiet_of_same (rhead_same _)))
  have hR := hR.drewN nq
  have hl := below_drewN hl nq
  generalize (w.alloc (.cells #[.int .i64 0, .int .i64 0, .int .i64 0, .int .i64 0, .int .i64 0] 23)).drewN nq = W0 at *
  go_wp2
  go_region_held3 (fun _ => True) (trivial) ((go_at_call 34; refine (num_any _ _ (by assumption)).mono ?_; rintro e w' ⟨rfl, rfl⟩))
  all_goals
    clear q1 q2 q3 q4 q5 t1 t2 q'
    go_wp2_with fail
    refine (rchk_f g _).mono ?_
    rintro e w4 ⟨rfl, hb4'⟩
    have hb4 := undrew hb4'
    clear hb4'
    obtain ⟨⟨r0, r1, r2, r3, r4⟩, ⟨f0, f1, f2, f3, f4⟩, hlt⟩ := (hR.later (bt (bel1 W0 _) hb4)).five
    obtain ⟨⟨c0, c1, c2, c3, c4⟩, -, -⟩ := ((At.box W0 #[.int .i64 (numS vO), .int .i64 (numS vFm), .int .i64 (numS vFi), .int .i64 (numS vTm), .int .i64 (numS vTi)] 23).later hb4).five
    have hbl := bt hl (bt (bel1 W0 _) hb4)
    clear hR hl hb4 g
    generalize W0.heap.size = b3 at *
    go_wp2
    exact bodyPost_ret (v := .tuple #[.agg #[.int .i64 0, .int .i64 0, .int .i64 0, .int .i64 0, .int .i64 0], .int .i64 40]) (by simp [results, Try.results17, go_sem, r0, r1, r2, r3, r4]) rfl ⟨rfl, below5 hbl (Nat.le_refl _) _ _ _ _ _⟩

set_option maxHeartbeats 2000000 in
theorem rdec_y0 {s : ByteArray} (h : 28 ≤ s.size) (h2 : s.size ≤ 46) (q : preB s = true) (g : mayS s = true) (w : World) :
    Calls Try.prog 17 #[.string s] w fun e w' => e = .returned (.tuple #[.agg #[.int .i64 (aO s), .int .i64 (aFm s), .int .i64 (aFi s), .int .i64 (aTm s), .int .i64 (aTi s)], .int .i64 0]) ∧ Below w.heap.size w w' := by
  have hl := bel1 w (.cells #[.int .i64 0, .int .i64 0, .int .i64 0, .int .i64 0, .int .i64 0] 23)
  have hR := At.box w #[.int .i64 0, .int .i64 0, .int .i64 0, .int .i64 0, .int .i64 0] 23
  have t1 : decide ((s.size : Int) < 28) = false := decide_eq_false (by omega)
  have t2 : decide ((46 : Int) < s.size) = false := decide_eq_false (by omega)
  have q' : ((s.extract 0 6).toList == hdS.toList) = true := q
  have i6 : (6 : Int) ≤ (s.size : Int) := by omega
  have q1 : ∀ W, (Instr.slice 9 (.string s) (some (.int .i64 6)) (some (.int .i64 8)) none).run Try.prog W = .ok (.string (sO s)) W := run_sl s 6 8 (sO s) rfl (by omega) (by omega) h2
  have q2 : ∀ W, (Instr.slice 9 (.string s) (some (.int .i64 8)) (some (.int .i64 14)) none).run Try.prog W = .ok (.string (sFm s)) W := run_sl s 8 14 (sFm s) rfl (by omega) (by omega) h2
  have q3 : ∀ W, (Instr.slice 9 (.string s) (some (.int .i64 14)) (some (.int .i64 18)) none).run Try.prog W = .ok (.string (sFi s)) W := run_sl s 14 18 (sFi s) rfl (by omega) (by omega) h2
  have q4 : ∀ W, (Instr.slice 9 (.string s) (some (.int .i64 18)) (some (.int .i64 24)) none).run Try.prog W = .ok (.string (sTm s)) W := run_sl s 18 24 (sTm s) rfl (by omega) (by omega) h2
  have q5 : ∀ W, (Instr.slice 9 (.string s) (some (.int .i64 24)) (some (.int .i64 28)) none).run Try.prog W = .ok (.string (sTi s)) W := run_sl s 24 28 (sTi s) rfl (by omega) (by omega) h2
  have zO : (sO s).size ≤ 6 := by unfold sO; rw [ByteArray.size_extract]; omega
  have zFm : (sFm s).size ≤ 6 := by unfold sFm; rw [ByteArray.size_extract]; omega
  have zFi : (sFi s).size ≤ 6 := by unfold sFi; rw [ByteArray.size_extract]; omega
  have zTm : (sTm s).size ≤ 6 := by unfold sTm; rw [ByteArray.size_extract]; omega
  have zTi : (sTi s).size ≤ 6 := by unfold sTi; rw [ByteArray.size_extract]; omega
  change mayA (numS (sO s)) (numS (sFm s)) (numS (sFi s)) (numS (sTm s)) (numS (sTi s)) = true at g
  change Calls Try.prog 17 #[.string s] w fun e w' => e = .returned (.tuple #[.agg #[.int .i64 (numS (sO s)), .int .i64 (numS (sFm s)), .int .i64 (numS (sFi s)), .int .i64 (numS (sTm s)), .int .i64 (numS (sTi s))], .int .i64 0]) ∧ Below w.heap.size w w'
  generalize sO s = vO at *
  generalize sFm s = vFm at *
  generalize sFi s = vFi at *
  generalize sTm s = vTm at *
  generalize sTi s = vTi at *
  go_enter Try.func17, Try.ntmps17
  go_wp2
  go_quiet ((go_at_call 33; refine Calls.quiet_of_same (rhead_same _)))
  have hR := hR.drewN nq
  have hl := below_drewN hl nq
  generalize (w.alloc (.cells #[.int .i64 0, .int .i64 0, .int .i64 0, .int .i64 0, .int .i64 0] 23)).drewN nq = W0 at *
  go_wp2
  go_region_held3 (fun _ => True) (trivial) ((go_at_call 34; refine (num_any _ _ (by assumption)).mono ?_; rintro e w' ⟨rfl, rfl⟩))
  all_goals
    clear q1 q2 q3 q4 q5 t1 t2 q'
    go_wp2_with fail
    refine (rchk_t g _).mono ?_
    rintro e w4 ⟨rfl, hb4'⟩
    have hb4 := undrew hb4'
    clear hb4'
    obtain ⟨⟨r0, r1, r2, r3, r4⟩, ⟨f0, f1, f2, f3, f4⟩, hlt⟩ := (hR.later (bt (bel1 W0 _) hb4)).five
    obtain ⟨⟨c0, c1, c2, c3, c4⟩, -, -⟩ := ((At.box W0 #[.int .i64 (numS vO), .int .i64 (numS vFm), .int .i64 (numS vFi), .int .i64 (numS vTm), .int .i64 (numS vTi)] 23).later hb4).five
    have hbl := bt hl (bt (bel1 W0 _) hb4)
    clear hR hl hb4 g
    generalize W0.heap.size = b3 at *
    go_wp2
    exact bodyPost_ret (v := .tuple #[.agg #[.int .i64 (numS vO), .int .i64 (numS vFm), .int .i64 (numS vFi), .int .i64 (numS vTm), .int .i64 (numS vTi)], .int .i64 0]) (by simp [results, Try.results17, go_sem, r0, r1, r2, r3, r4]) rfl ⟨rfl, below5 hbl (Nat.le_refl _) _ _ _ _ _⟩

theorem rdec_n {s : ByteArray} (h : decA s = false) (w : World) (hs : s.size ≤ maxLen) :
    Calls Try.prog 17 #[.string s] w fun e w' => e = .returned (.tuple #[.agg #[.int .i64 0, .int .i64 0, .int .i64 0, .int .i64 0, .int .i64 0], .int .i64 40]) ∧ Below w.heap.size w w' := by
  rcases decA_ways s with ⟨-, a⟩ | ⟨-, a⟩ | ⟨a, ⟨-, b⟩ | ⟨b, ⟨-, c⟩ | ⟨c, -⟩⟩⟩
  · exact rdec_n1 (.inl a) w hs
  · exact rdec_n1 (.inr (.inl a)) w hs
  · exact rdec_n1 (.inr (.inr ⟨a, b⟩)) w hs
  · exact rdec_n2 a.1 a.2 b c w
  · rw [h] at c; cases c
theorem rdec_y {s : ByteArray} (h : decA s = true) (w : World) :
    Calls Try.prog 17 #[.string s] w fun e w' => e = .returned (.tuple #[.agg #[.int .i64 (aO s), .int .i64 (aFm s), .int .i64 (aFi s), .int .i64 (aTm s), .int .i64 (aTi s)], .int .i64 0]) ∧ Below w.heap.size w w' := by
  obtain ⟨a, b, c, d⟩ := decA_parts h
  exact rdec_y0 a b c d w
end Go.Proofs.Ythffkmlihnfoeaa
