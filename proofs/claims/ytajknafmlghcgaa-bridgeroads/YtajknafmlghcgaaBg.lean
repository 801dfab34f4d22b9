/- Take, in four cases. -/
import Derived.Test.YtajknafmlghcgaaBf
namespace Go.Proofs.Ytajknafmlghcgaa
open Go.RowKit Go.Maps
set_option maxRecDepth 100000
set_option linter.unusedVariables false
set_option linter.unusedSimpArgs false

theorem At.set {W : World} {b : Nat} {vs : Array Value} (h : At W b vs) (i : Nat) (u : Value) : At (W.setCell ⟨b, i, none⟩ u) b (vs.setIfInBounds i u) := by
  refine ⟨by rw [World.size_setCell]; exact h.1, fun j v hj => ?_⟩
  rw [World.frozen?_setCell]
  rw [Array.getElem?_setIfInBounds] at hj
  by_cases e : i = j
  · subst e
    rw [if_pos rfl] at hj
    by_cases l : i < vs.size
    · rw [if_pos l] at hj
      cases hj
      obtain ⟨c, f⟩ := h.2 i vs[i] (Array.getElem?_eq_getElem l)
      exact ⟨World.cell?_setCell_same _ _ _ c, f⟩
    · rw [if_neg l] at hj
      cases hj
  · rw [if_neg e] at hj
    obtain ⟨c, f⟩ := h.2 j v hj
    exact ⟨(World.cell?_setCell_other _ _ _ _ (by intro q; cases q; exact e rfl)).trans c, f⟩
theorem turn_set (w : World) (b o : Nat) (u : Value) : Turn (fun j => j = b) w (w.setCell ⟨b, o, none⟩ u) :=
  ⟨rfl, rfl, rfl, by simp, fun k _ hk => heap_setCell_other w ⟨b, o, none⟩ k u (fun e => hk e)⟩
def oldL (ag now : Int) (l : List En) : List En := l.filter fun e => !(decide (e.2.2 + ag ≤ now))
def tickB (la now : Int) : Bool := decide (la ≤ now ∧ now ≤ 1099511627776)
set_option maxHeartbeats 2000000 in
theorem take_1 (B M : Nat) (po ag ro la : Int) (port td fd ty now : Int) (da : ByteArray) (l : List En) (w : World) (hB : At w B (brV po ag ro la M)) (hM : Lrn w M l) (hd : da.size ≤ maxLen) (hp : hasP po port = false) :
    Calls Try.prog 13 #[.pointer (some ⟨B, 0, none⟩), .int .i64 port, .agg #[.int .i64 td, .int .i64 fd, .int .i64 ty, .string da], .int .i64 now] w fun e w' => e = .returned (.tuple #[.slice none 0 0, .int .i64 100]) ∧ Below w.heap.size w w' := by
  have q1 := bel1 w (.cells #[.pointer (some ⟨B, 0, none⟩)] 25)
  have q2 := bel1 (w.alloc (.cells #[.pointer (some ⟨B, 0, none⟩)] 25)) (.cells #[.int .i64 td, .int .i64 fd, .int .i64 ty, .string da] 34)
  have q3 := bel1 ((w.alloc (.cells #[.pointer (some ⟨B, 0, none⟩)] 25)).alloc (.cells #[.int .i64 td, .int .i64 fd, .int .i64 ty, .string da] 34)) (.cells #[.int .i64 now] 3)
  have s1 : (w.alloc (.cells #[.pointer (some ⟨B, 0, none⟩)] 25)).heap.size = w.heap.size + 1 := by simp
  have s2 : ((w.alloc (.cells #[.pointer (some ⟨B, 0, none⟩)] 25)).alloc (.cells #[.int .i64 td, .int .i64 fd, .int .i64 ty, .string da] 34)).heap.size = w.heap.size + 2 := by simp
  have hb1 := bt (bt q1 q2) q3
  have hP := ((At.box w #[.pointer (some ⟨B, 0, none⟩)] 25).later q2).later q3
  have hF := (At.box (w.alloc (.cells #[.pointer (some ⟨B, 0, none⟩)] 25)) #[.int .i64 td, .int .i64 fd, .int .i64 ty, .string da] 34).later q3
  have hN := At.box ((w.alloc (.cells #[.pointer (some ⟨B, 0, none⟩)] 25)).alloc (.cells #[.int .i64 td, .int .i64 fd, .int .i64 ty, .string da] 34)) #[.int .i64 now] 3
  have hB1 := hB.later hb1
  have hM1 := hM.later hb1
  have hmf : ∀ (fn : Fn) (first cap : Array Value) (w : World), (Instr.makeFunc fn first cap).run Try.prog w = .ok (.func fn first cap) w := fun _ _ _ _ => rfl
  rw [s1] at hF
  rw [s2] at hN
  clear q1 q2 q3 s1 s2
  go_enter Try.func13, Try.ntmps13
  go_upto_region 1 with fail
  generalize (((w.alloc (.cells #[.pointer (some ⟨B, 0, none⟩)] 25)).alloc (.cells #[.int .i64 td, .int .i64 fd, .int .i64 ty, .string da] 34)).alloc (.cells #[.int .i64 now] 3)) = w1 at *
  have p0 : w1.cell? ⟨w.heap.size, 0, none⟩ = some (.pointer (some ⟨B, 0, none⟩)) := (hP.2 0 _ rfl).1
  have n0 : w1.cell? ⟨w.heap.size + 2, 0, none⟩ = some (.int .i64 now) := (hN.2 0 _ rfl).1
  go_wp2_with fail
  refine (has_any B po ag ro la M port w1 hB1).mono ?_
  rintro e w2 ⟨rfl, rfl⟩
  rw [show (decide (0 ≤ port) && decide (port < po)) = hasP po port from rfl, hp]
  go_wp2
  go_ret2
  exact ⟨rfl, hb1⟩
set_option maxHeartbeats 2000000 in
theorem take_2 (B M : Nat) (po ag ro la : Int) (port td fd ty now : Int) (da : ByteArray) (l : List En) (w : World) (hB : At w B (brV po ag ro la M)) (hM : Lrn w M l) (hd : da.size ≤ maxLen) (hp : hasP po port = true) (ht : tickB la now = false) :
    Calls Try.prog 13 #[.pointer (some ⟨B, 0, none⟩), .int .i64 port, .agg #[.int .i64 td, .int .i64 fd, .int .i64 ty, .string da], .int .i64 now] w fun e w' => e = .returned (.tuple #[.slice none 0 0, .int .i64 1]) ∧ Below w.heap.size w w' := by
  have q1 := bel1 w (.cells #[.pointer (some ⟨B, 0, none⟩)] 25)
  have q2 := bel1 (w.alloc (.cells #[.pointer (some ⟨B, 0, none⟩)] 25)) (.cells #[.int .i64 td, .int .i64 fd, .int .i64 ty, .string da] 34)
  have q3 := bel1 ((w.alloc (.cells #[.pointer (some ⟨B, 0, none⟩)] 25)).alloc (.cells #[.int .i64 td, .int .i64 fd, .int .i64 ty, .string da] 34)) (.cells #[.int .i64 now] 3)
  have s1 : (w.alloc (.cells #[.pointer (some ⟨B, 0, none⟩)] 25)).heap.size = w.heap.size + 1 := by simp
  have s2 : ((w.alloc (.cells #[.pointer (some ⟨B, 0, none⟩)] 25)).alloc (.cells #[.int .i64 td, .int .i64 fd, .int .i64 ty, .string da] 34)).heap.size = w.heap.size + 2 := by simp
  have hb1 := bt (bt q1 q2) q3
  have hP := ((At.box w #[.pointer (some ⟨B, 0, none⟩)] 25).later q2).later q3
  have hF := (At.box (w.alloc (.cells #[.pointer (some ⟨B, 0, none⟩)] 25)) #[.int .i64 td, .int .i64 fd, .int .i64 ty, .string da] 34).later q3
  have hN := At.box ((w.alloc (.cells #[.pointer (some ⟨B, 0, none⟩)] 25)).alloc (.cells #[.int .i64 td, .int .i64 fd, .int .i64 ty, .string da] 34)) #[.int .i64 now] 3
  have hB1 := hB.later hb1
  have hM1 := hM.later hb1
  have hmf : ∀ (fn : Fn) (first cap : Array Value) (w : World), (Instr.makeFunc fn first cap).run Try.prog w = .ok (.func fn first cap) w := fun _ _ _ _ => rfl
  rw [s1] at hF
  rw [s2] at hN
  clear q1 q2 q3 s1 s2
  go_enter Try.func13, Try.ntmps13
  go_upto_region 1 with fail
  generalize (((w.alloc (.cells #[.pointer (some ⟨B, 0, none⟩)] 25)).alloc (.cells #[.int .i64 td, .int .i64 fd, .int .i64 ty, .string da] 34)).alloc (.cells #[.int .i64 now] 3)) = w1 at *
  have p0 : w1.cell? ⟨w.heap.size, 0, none⟩ = some (.pointer (some ⟨B, 0, none⟩)) := (hP.2 0 _ rfl).1
  have n0 : w1.cell? ⟨w.heap.size + 2, 0, none⟩ = some (.int .i64 now) := (hN.2 0 _ rfl).1
  go_wp2_with fail
  refine (has_any B po ag ro la M port w1 hB1).mono ?_
  rintro e w2 ⟨rfl, rfl⟩
  rw [show (decide (0 ≤ port) && decide (port < po)) = hasP po port from rfl, hp]
  have d3 : w2.cell? ⟨B, 3, none⟩ = some (.int .i64 la) := (hB1.2 3 _ rfl).1
  have ht' := of_decide_eq_false ht
  go_upto_region 3 with fail
  by_cases hl : now < la
  · go_quiet (fail)
    go_wp2
    go_ret2
    exact ⟨rfl, below_drewN hb1 _⟩
  · have hl2 : 1099511627776 < now := by omega
    go_quiet (fail)
    go_wp2
    go_ret2
    exact ⟨rfl, below_drewN hb1 _⟩
set_option maxHeartbeats 2000000 in
theorem take_3 (B M : Nat) (po ag ro la : Int) (port td fd ty now : Int) (da : ByteArray) (l : List En) (w : World) (hB : At w B (brV po ag ro la M)) (hM : Lrn w M l) (hd : da.size ≤ maxLen) (hp : hasP po port = true) (ht : tickB la now = true) (hm : mayB td fd ty da.size = false) :
    Calls Try.prog 13 #[.pointer (some ⟨B, 0, none⟩), .int .i64 port, .agg #[.int .i64 td, .int .i64 fd, .int .i64 ty, .string da], .int .i64 now] w fun e w' => e = .returned (.tuple #[.slice none 0 0, .int .i64 30]) ∧ Below w.heap.size w w' := by
  have q1 := bel1 w (.cells #[.pointer (some ⟨B, 0, none⟩)] 25)
  have q2 := bel1 (w.alloc (.cells #[.pointer (some ⟨B, 0, none⟩)] 25)) (.cells #[.int .i64 td, .int .i64 fd, .int .i64 ty, .string da] 34)
  have q3 := bel1 ((w.alloc (.cells #[.pointer (some ⟨B, 0, none⟩)] 25)).alloc (.cells #[.int .i64 td, .int .i64 fd, .int .i64 ty, .string da] 34)) (.cells #[.int .i64 now] 3)
  have s1 : (w.alloc (.cells #[.pointer (some ⟨B, 0, none⟩)] 25)).heap.size = w.heap.size + 1 := by simp
  have s2 : ((w.alloc (.cells #[.pointer (some ⟨B, 0, none⟩)] 25)).alloc (.cells #[.int .i64 td, .int .i64 fd, .int .i64 ty, .string da] 34)).heap.size = w.heap.size + 2 := by simp
  have hb1 := bt (bt q1 q2) q3
  have hP := ((At.box w #[.pointer (some ⟨B, 0, none⟩)] 25).later q2).later q3
  have hF := (At.box (w.alloc (.cells #[.pointer (some ⟨B, 0, none⟩)] 25)) #[.int .i64 td, .int .i64 fd, .int .i64 ty, .string da] 34).later q3
  have hN := At.box ((w.alloc (.cells #[.pointer (some ⟨B, 0, none⟩)] 25)).alloc (.cells #[.int .i64 td, .int .i64 fd, .int .i64 ty, .string da] 34)) #[.int .i64 now] 3
  have hB1 := hB.later hb1
  have hM1 := hM.later hb1
  have hmf : ∀ (fn : Fn) (first cap : Array Value) (w : World), (Instr.makeFunc fn first cap).run Try.prog w = .ok (.func fn first cap) w := fun _ _ _ _ => rfl
  rw [s1] at hF
  rw [s2] at hN
  clear q1 q2 q3 s1 s2
  go_enter Try.func13, Try.ntmps13
  go_upto_region 1 with fail
  generalize (((w.alloc (.cells #[.pointer (some ⟨B, 0, none⟩)] 25)).alloc (.cells #[.int .i64 td, .int .i64 fd, .int .i64 ty, .string da] 34)).alloc (.cells #[.int .i64 now] 3)) = w1 at *
  have p0 : w1.cell? ⟨w.heap.size, 0, none⟩ = some (.pointer (some ⟨B, 0, none⟩)) := (hP.2 0 _ rfl).1
  have n0 : w1.cell? ⟨w.heap.size + 2, 0, none⟩ = some (.int .i64 now) := (hN.2 0 _ rfl).1
  go_wp2_with fail
  refine (has_any B po ag ro la M port w1 hB1).mono ?_
  rintro e w2 ⟨rfl, rfl⟩
  rw [show (decide (0 ≤ port) && decide (port < po)) = hasP po port from rfl, hp]
  have d3 : w2.cell? ⟨B, 3, none⟩ = some (.int .i64 la) := (hB1.2 3 _ rfl).1
  have ht' := of_decide_eq_true ht
  have hl1 : ¬ now < la := by omega
  have hl2 : ¬ 1099511627776 < now := by omega
  go_upto_region 3 with fail
  go_quiet (fail)
  have hb1 := below_drewN hb1 nq
  replace hB1 : At (w2.drewN nq) B (brV po ag ro la M) := hB1
  replace hM1 : Lrn (w2.drewN nq) M l := hM1
  replace hP : At (w2.drewN nq) w.heap.size #[.pointer (some ⟨B, 0, none⟩)] := hP
  replace hF : At (w2.drewN nq) (w.heap.size + 1) #[.int .i64 td, .int .i64 fd, .int .i64 ty, .string da] := hF
  replace hN : At (w2.drewN nq) (w.heap.size + 2) #[.int .i64 now] := hN
  clear p0 n0 d3
  generalize w2.drewN nq = w3 at *
  have p0 : w3.cell? ⟨w.heap.size, 0, none⟩ = some (.pointer (some ⟨B, 0, none⟩)) := (hP.2 0 _ rfl).1
  have n0 : w3.cell? ⟨w.heap.size + 2, 0, none⟩ = some (.int .i64 now) := (hN.2 0 _ rfl).1
  have f0 : w3.cell? ⟨w.heap.size + 1, 0, none⟩ = some (.int .i64 td) := (hF.2 0 _ rfl).1
  have f1 : w3.cell? ⟨w.heap.size + 1, 1, none⟩ = some (.int .i64 fd) := (hF.2 1 _ rfl).1
  have f2 : w3.cell? ⟨w.heap.size + 1, 2, none⟩ = some (.int .i64 ty) := (hF.2 2 _ rfl).1
  have f3 : w3.cell? ⟨w.heap.size + 1, 3, none⟩ = some (.string da) := (hF.2 3 _ rfl).1
  go_wp2_with fail
  refine (check_any td fd ty da w3 hd).mono ?_
  rintro e w4 ⟨rfl, hb4⟩
  rw [hm]
  rw [show codeE false = 30 from rfl]
  go_wp2
  go_ret2
  exact ⟨rfl, bt hb1 hb4⟩
set_option maxHeartbeats 2000000 in
theorem take_4 (B M : Nat) (po ag ro la : Int) (port td fd ty now : Int) (da : ByteArray) (l : List En) (w : World) (hB : At w B (brV po ag ro la M)) (hM : Lrn w M l) (hd : da.size ≤ maxLen) (hp : hasP po port = true) (ht : tickB la now = true) (hm : mayB td fd ty da.size = true) (h0 : 1 ≤ po) (h1 : po ≤ 16) (hg0 : 1 ≤ ag) (hg1 : ag ≤ 1048576) (hla : 0 ≤ la) (hn : l.length < 5000) :
    Calls Try.prog 13 #[.pointer (some ⟨B, 0, none⟩), .int .i64 port, .agg #[.int .i64 td, .int .i64 fd, .int .i64 ty, .string da], .int .i64 now] w fun e w' => ∃ v, e = .returned (.tuple #[v, .int .i64 0]) ∧ Ints w' w.heap.size v (waysL po (learnL ro (oldL ag now l) (fd, port, now)) port td) ∧ At w' B (brV po ag ro now M) ∧ Lrn w' M (learnL ro (oldL ag now l) (fd, port, now)) ∧ Turn (fun j => j = M ∨ j = B) w w' := by
  have q1 := bel1 w (.cells #[.pointer (some ⟨B, 0, none⟩)] 25)
  have q2 := bel1 (w.alloc (.cells #[.pointer (some ⟨B, 0, none⟩)] 25)) (.cells #[.int .i64 td, .int .i64 fd, .int .i64 ty, .string da] 34)
  have q3 := bel1 ((w.alloc (.cells #[.pointer (some ⟨B, 0, none⟩)] 25)).alloc (.cells #[.int .i64 td, .int .i64 fd, .int .i64 ty, .string da] 34)) (.cells #[.int .i64 now] 3)
  have s1 : (w.alloc (.cells #[.pointer (some ⟨B, 0, none⟩)] 25)).heap.size = w.heap.size + 1 := by simp
  have s2 : ((w.alloc (.cells #[.pointer (some ⟨B, 0, none⟩)] 25)).alloc (.cells #[.int .i64 td, .int .i64 fd, .int .i64 ty, .string da] 34)).heap.size = w.heap.size + 2 := by simp
  have hb1 := bt (bt q1 q2) q3
  have hP := ((At.box w #[.pointer (some ⟨B, 0, none⟩)] 25).later q2).later q3
  have hF := (At.box (w.alloc (.cells #[.pointer (some ⟨B, 0, none⟩)] 25)) #[.int .i64 td, .int .i64 fd, .int .i64 ty, .string da] 34).later q3
  have hN := At.box ((w.alloc (.cells #[.pointer (some ⟨B, 0, none⟩)] 25)).alloc (.cells #[.int .i64 td, .int .i64 fd, .int .i64 ty, .string da] 34)) #[.int .i64 now] 3
  have hB1 := hB.later hb1
  have hM1 := hM.later hb1
  have hmf : ∀ (fn : Fn) (first cap : Array Value) (w : World), (Instr.makeFunc fn first cap).run Try.prog w = .ok (.func fn first cap) w := fun _ _ _ _ => rfl
  rw [s1] at hF
  rw [s2] at hN
  clear q1 q2 q3 s1 s2
  go_enter Try.func13, Try.ntmps13
  go_upto_region 1 with fail
  generalize (((w.alloc (.cells #[.pointer (some ⟨B, 0, none⟩)] 25)).alloc (.cells #[.int .i64 td, .int .i64 fd, .int .i64 ty, .string da] 34)).alloc (.cells #[.int .i64 now] 3)) = w1 at *
  have p0 : w1.cell? ⟨w.heap.size, 0, none⟩ = some (.pointer (some ⟨B, 0, none⟩)) := (hP.2 0 _ rfl).1
  have n0 : w1.cell? ⟨w.heap.size + 2, 0, none⟩ = some (.int .i64 now) := (hN.2 0 _ rfl).1
  go_wp2_with fail
  refine (has_any B po ag ro la M port w1 hB1).mono ?_
  rintro e w2 ⟨rfl, rfl⟩
  rw [show (decide (0 ≤ port) && decide (port < po)) = hasP po port from rfl, hp]
  have d3 : w2.cell? ⟨B, 3, none⟩ = some (.int .i64 la) := (hB1.2 3 _ rfl).1
  have ht' := of_decide_eq_true ht
  have hl1 : ¬ now < la := by omega
  have hl2 : ¬ 1099511627776 < now := by omega
  go_upto_region 3 with fail
  go_quiet (fail)
  have hb1 := below_drewN hb1 nq
  replace hB1 : At (w2.drewN nq) B (brV po ag ro la M) := hB1
  replace hM1 : Lrn (w2.drewN nq) M l := hM1
  replace hP : At (w2.drewN nq) w.heap.size #[.pointer (some ⟨B, 0, none⟩)] := hP
  replace hF : At (w2.drewN nq) (w.heap.size + 1) #[.int .i64 td, .int .i64 fd, .int .i64 ty, .string da] := hF
  replace hN : At (w2.drewN nq) (w.heap.size + 2) #[.int .i64 now] := hN
  clear p0 n0 d3
  generalize w2.drewN nq = w3 at *
  have p0 : w3.cell? ⟨w.heap.size, 0, none⟩ = some (.pointer (some ⟨B, 0, none⟩)) := (hP.2 0 _ rfl).1
  have n0 : w3.cell? ⟨w.heap.size + 2, 0, none⟩ = some (.int .i64 now) := (hN.2 0 _ rfl).1
  have f0 : w3.cell? ⟨w.heap.size + 1, 0, none⟩ = some (.int .i64 td) := (hF.2 0 _ rfl).1
  have f1 : w3.cell? ⟨w.heap.size + 1, 1, none⟩ = some (.int .i64 fd) := (hF.2 1 _ rfl).1
  have f2 : w3.cell? ⟨w.heap.size + 1, 2, none⟩ = some (.int .i64 ty) := (hF.2 2 _ rfl).1
  have f3 : w3.cell? ⟨w.heap.size + 1, 3, none⟩ = some (.string da) := (hF.2 3 _ rfl).1
  go_wp2_with fail
  refine (check_any td fd ty da w3 hd).mono ?_
  rintro e w4 ⟨rfl, hb4⟩
  rw [hm]
  rw [show codeE true = 0 from rfl]
  have hm' := of_decide_eq_true hm
  have hp' : 0 ≤ port ∧ port < po := by unfold hasP at hp; simpa using hp
  have hBM : B ≠ M := at_ne (hB.2 0 _ rfl).1 hM
  have hBl := hB.1
  have hMl := hM.1.lt
  have hb5 := bt hb1 hb4
  replace hB1 := hB1.later hb4
  replace hM1 := hM1.later hb4
  replace hP := hP.later hb4
  replace hF := hF.later hb4
  replace hN := hN.later hb4
  clear p0 n0 f0 f1 f2 f3 hb1 hb4
  have p0 : w4.cell? ⟨w.heap.size, 0, none⟩ = some (.pointer (some ⟨B, 0, none⟩)) := (hP.2 0 _ rfl).1
  have n0 : w4.cell? ⟨w.heap.size + 2, 0, none⟩ = some (.int .i64 now) := (hN.2 0 _ rfl).1
  have d3 : w4.cell? ⟨B, 3, none⟩ = some (.int .i64 la) := (hB1.2 3 _ rfl).1
  have e3 : w4.frozen? ⟨B, 3, none⟩ = false := (hB1.2 3 _ rfl).2
  go_upto_region 9 with fail
  have ts := turn_set w4 B 3 (.int .i64 now)
  have hB2 : At (w4.setCell ⟨B, 3, none⟩ (.int .i64 now)) B (brV po ag ro now M) := hB1.set 3 (.int .i64 now)
  have hM2 := hM1.turn ts (fun e => hBM e.symm)
  have hP2 := hP.turn ts (by omega)
  have hF2 := hF.turn ts (by omega)
  have hN2 := hN.turn ts (by omega)
  have t2 : Turn (fun j => j = M ∨ j = B) w (w4.setCell ⟨B, 3, none⟩ (.int .i64 now)) := (Turn.of_below hb5).trans (ts.mono fun k e => Or.inr e)
  have z2 := t2.size
  clear hB1 hM1 hP hF hN p0 n0 d3 e3
  have hws : w.heap.size + 3 ≤ (w4.setCell ⟨B, 3, none⟩ (.int .i64 now)).heap.size := hN2.1
  generalize w4.setCell ⟨B, 3, none⟩ (.int .i64 now) = w5 at *
  have p0 : w5.cell? ⟨w.heap.size, 0, none⟩ = some (.pointer (some ⟨B, 0, none⟩)) := (hP2.2 0 _ rfl).1
  have n0 : w5.cell? ⟨w.heap.size + 2, 0, none⟩ = some (.int .i64 now) := (hN2.2 0 _ rfl).1
  go_wp2_with fail
  refine (forget_take B M w.heap.size (w.heap.size + 2) po ag ro now now l w5 hB2 hM2 hg0 hg1 p0 n0).mono ?_
  rintro e w6 ⟨rfl, hM6, t6⟩
  have hB6 := hB2.turn t6 hBM
  have hP6 := hP2.turn t6 (by omega)
  have hF6 := hF2.turn t6 (by omega)
  have hN6 := hN2.turn t6 (by omega)
  have t7 := t2.trans (t6.mono fun k e => Or.inl e)
  clear p0 n0 hB2 hM2 hP2 hF2 hN2 t2
  have p0 : w6.cell? ⟨w.heap.size, 0, none⟩ = some (.pointer (some ⟨B, 0, none⟩)) := (hP6.2 0 _ rfl).1
  have n0 : w6.cell? ⟨w.heap.size + 2, 0, none⟩ = some (.int .i64 now) := (hN6.2 0 _ rfl).1
  have f1 : w6.cell? ⟨w.heap.size + 1, 1, none⟩ = some (.int .i64 fd) := (hF6.2 1 _ rfl).1
  have hok : okH port now := ⟨⟨hp'.1, by omega⟩, by omega, ht'.2⟩
  have hwf : (Lit.int .i64 fd).wf = true := WalkArith.wf_i64 (by omega)
  have hle : (oldL ag now l).length < 5000 := Nat.lt_of_le_of_lt (List.length_filter_le _ _) hn
  go_wp2_with fail
  refine (learn_any B M po ag ro now fd port now (oldL ag now l) w6 hB6 hM6 ⟨hwf, hok⟩ hle).mono ?_
  rintro e w7 ⟨rfl, hM7, t8⟩
  have hB7 := hB6.turn t8 hBM
  have hP7 := hP6.turn t8 (by omega)
  have hF7 := hF6.turn t8 (by omega)
  have t9 := t7.trans (t8.mono fun k e => Or.inl e)
  clear p0 n0 f1 hB6 hM6 hP6 hF6 hN6 t7
  have p0 : w7.cell? ⟨w.heap.size, 0, none⟩ = some (.pointer (some ⟨B, 0, none⟩)) := (hP7.2 0 _ rfl).1
  have f0 : w7.cell? ⟨w.heap.size + 1, 0, none⟩ = some (.int .i64 td) := (hF7.2 0 _ rfl).1
  go_wp2_with fail
  refine (ways_any B M po ag ro now port td (learnL ro (oldL ag now l) (fd, port, now)) w7 hB7 hM7 h0 h1 (WalkArith.wf_i64 (by omega))).mono ?_
  rintro e w8 ⟨v, rfl, hI, hb8⟩
  go_wp2
  go_ret2
  exact ⟨v, rfl, hI.below t9.size, hB7.later hb8, hM7.later hb8, t9.later hb8⟩
end Go.Proofs.Ytajknafmlghcgaa
