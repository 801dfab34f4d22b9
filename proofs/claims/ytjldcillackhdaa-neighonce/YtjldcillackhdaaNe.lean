/- learn (where there is room), release, question. -/
import Derived.Test.YtjldcillackhdaaNd
namespace Go.Proofs.Ytjldcillackhdaa
open Go.RowKit Go.Maps Go.Proofs.Ytjldcillackhdaa.Eth Go.Proofs.Ytjldcillackhdaa.Eth.Arp
set_option maxRecDepth 100000
set_option linter.unusedVariables false
set_option linter.unusedSimpArgs false

set_option maxHeartbeats 2000000 in
theorem learn_t (C M A : Nat) (mac ag pa ro wa la wt : Int) (ow : Value) (gk : Int → Option (Int × Int)) (ip m t lo : Int) (d : Nat) (w : World) (hC : At w C (cV mac ag pa ro wa ow la M A wt)) (hM : KM w M gk) (hk : (Lit.int .i64 ip).wf = true) (h0 : ip ≠ 0) (hkeys : ∀ k, (gk k).isSome = true → lo ≤ k ∧ k < lo + d) (hd : (d : Int) < ro) (hd2 : d < 5000) :
    Calls Try.prog 26 #[.pointer (some ⟨C, 0, none⟩), .int .i64 ip, .agg #[.int .i64 m, .int .i64 t]] w fun e w' => e = .returned (.tuple #[]) ∧ KM w' M (fun x => if x = ip then some (m, t) else gk x) ∧ Turn (fun j => j = M) w w' := by
  obtain ⟨kl, hV, hv⟩ := hM
  have hvk := hv ip
  have hln : kl.length ≤ d := vm_keys hV.2 hv (fun k hk => hkeys k (by simpa using hk))
  have hn5 : kl.length < 1000000 := by omega
  cases hgk : gk ip with
  | none =>
    rw [hgk, Option.map_none] at hvk
    have hlr : ¬ ro ≤ (kl.length : Int) := by omega
    have hb0 := bel1 w (.cells #[.int .i64 m, .int .i64 t] 70)
    have hH0 := At.box w #[.int .i64 m, .int .i64 t] 70
    have hV0 := hV.later hb0
    have hC0 := hC.later hb0
    have c7 : (w.alloc (.cells #[.int .i64 m, .int .i64 t] 70)).cell? ⟨C, 7, none⟩ = some (.map (some M)) := (hC0.2 7 _ rfl).1
    go_enter Try.func26, Try.ntmps26
    go_upto_region 1 with fail
    generalize w.alloc (.cells #[.int .i64 m, .int .i64 t] 70) = w1 at *
    have q1 := bel1 w1 (.cells #[.int .i64 0, .int .i64 0] 70)
    have hV1 := hV0.later q1
    have hC1 := hC0.later q1
    have hH1 := hH0.later q1
    have hb1 := bt hb0 q1
    go_upto_region 3 with (first
      | (at_lookup; refine wpList_lookup_vm rfl _ _ rfl M kl ip hk Try.underlying61 zeroT rfl hV0 rfl ?_; rw [hvk, Option.getD_none, Option.isSome_none, show tv (0, 0) = .agg #[.int .i64 0, .int .i64 0] from rfl])
      | go_in)
    generalize w1.alloc (.cells #[.int .i64 0, .int .i64 0] 70) = w2 at *
    have d3 : w2.cell? ⟨C, 3, none⟩ = some (.int .i64 ro) := (hC1.2 3 _ rfl).1
    have d7 : w2.cell? ⟨C, 7, none⟩ = some (.map (some M)) := (hC1.2 7 _ rfl).1
    have e0 : w2.cell? ⟨w.heap.size, 0, none⟩ = some (.int .i64 m) := (hH1.2 0 _ rfl).1
    have e1 : w2.cell? ⟨w.heap.size, 1, none⟩ = some (.int .i64 t) := (hH1.2 1 _ rfl).1
    have hlen : ∀ (n : Nat) (ty : TypeId), (Builtin.len_ #[61] ty #[.map (some M)]).run Try.prog (w2.drewN n) = .ok (.int .i64 kl.length) (w2.drewN n) := fun n ty => VM.len (w := w2.drewN n) hV1 Try.underlying61 ty
    obtain ⟨W3, hW3⟩ : ∃ W3 : Nat → World, ∀ n, (Instr.mapUpdate 61 (.map (some M)) (.int .i64 ip) (.agg #[.int .i64 m, .int .i64 t])).run Try.prog (w2.drewN n) = .ok () (W3 n) ∧ VM (W3 n) M (vput kl (ip, .agg #[.int .i64 m, .int .i64 t])) ∧ Turn (fun j => j = M) (w2.drewN n) (W3 n) :=
      Classical.axiomOfChoice fun n => VM.put (w := w2.drewN n) hV1 Try.underlying61 hn5 hk _
    have hrun := fun n => (hW3 n).1
    have hfin : ∀ n, KM (W3 n) M (fun x => if x = ip then some (m, t) else gk x) ∧ Turn (fun j => j = M) w (W3 n) := fun n => by
      obtain ⟨-, v3, t3⟩ := hW3 n
      refine ⟨⟨_, v3, fun x => ?_⟩, (Turn.of_below hb1).trans t3.undrewN⟩
      rw [vlk_put v3.2 hV.2]
      by_cases hx : x = ip
      · simp [hx, tv]
      · simp [hx, hv x]
    clear hW3
    go_quiet (fail)
    go_upto_region 5 with fail
    go_region
    all_goals go_end0
    all_goals (refine ⟨rfl, ?_⟩; exact hfin _)
  | some p =>
    obtain ⟨m0, t0⟩ := p
    rw [hgk, Option.map_some] at hvk
    have hb0 := bel1 w (.cells #[.int .i64 m, .int .i64 t] 70)
    have hH0 := At.box w #[.int .i64 m, .int .i64 t] 70
    have hV0 := hV.later hb0
    have hC0 := hC.later hb0
    have c7 : (w.alloc (.cells #[.int .i64 m, .int .i64 t] 70)).cell? ⟨C, 7, none⟩ = some (.map (some M)) := (hC0.2 7 _ rfl).1
    go_enter Try.func26, Try.ntmps26
    go_upto_region 1 with fail
    generalize w.alloc (.cells #[.int .i64 m, .int .i64 t] 70) = w1 at *
    have q1 := bel1 w1 (.cells #[.int .i64 m0, .int .i64 t0] 70)
    have hV1 := hV0.later q1
    have hC1 := hC0.later q1
    have hH1 := hH0.later q1
    have hb1 := bt hb0 q1
    go_upto_region 3 with (first
      | (at_lookup; refine wpList_lookup_vm rfl _ _ rfl M kl ip hk Try.underlying61 zeroT rfl hV0 rfl ?_; rw [hvk, Option.getD_some, Option.isSome_some, show tv (m0, t0) = .agg #[.int .i64 m0, .int .i64 t0] from rfl])
      | go_in)
    generalize w1.alloc (.cells #[.int .i64 m0, .int .i64 t0] 70) = w2 at *
    have d3 : w2.cell? ⟨C, 3, none⟩ = some (.int .i64 ro) := (hC1.2 3 _ rfl).1
    have d7 : w2.cell? ⟨C, 7, none⟩ = some (.map (some M)) := (hC1.2 7 _ rfl).1
    have e0 : w2.cell? ⟨w.heap.size, 0, none⟩ = some (.int .i64 m) := (hH1.2 0 _ rfl).1
    have e1 : w2.cell? ⟨w.heap.size, 1, none⟩ = some (.int .i64 t) := (hH1.2 1 _ rfl).1
    have hlen : ∀ (n : Nat) (ty : TypeId), (Builtin.len_ #[61] ty #[.map (some M)]).run Try.prog (w2.drewN n) = .ok (.int .i64 kl.length) (w2.drewN n) := fun n ty => VM.len (w := w2.drewN n) hV1 Try.underlying61 ty
    obtain ⟨W3, hW3⟩ : ∃ W3 : Nat → World, ∀ n, (Instr.mapUpdate 61 (.map (some M)) (.int .i64 ip) (.agg #[.int .i64 m, .int .i64 t])).run Try.prog (w2.drewN n) = .ok () (W3 n) ∧ VM (W3 n) M (vput kl (ip, .agg #[.int .i64 m, .int .i64 t])) ∧ Turn (fun j => j = M) (w2.drewN n) (W3 n) :=
      Classical.axiomOfChoice fun n => VM.put (w := w2.drewN n) hV1 Try.underlying61 hn5 hk _
    have hrun := fun n => (hW3 n).1
    have hfin : ∀ n, KM (W3 n) M (fun x => if x = ip then some (m, t) else gk x) ∧ Turn (fun j => j = M) w (W3 n) := fun n => by
      obtain ⟨-, v3, t3⟩ := hW3 n
      refine ⟨⟨_, v3, fun x => ?_⟩, (Turn.of_below hb1).trans t3.undrewN⟩
      rw [vlk_put v3.2 hV.2]
      by_cases hx : x = ip
      · simp [hx, tv]
      · simp [hx, hv x]
    clear hW3
    go_quiet (fail)
    go_upto_region 5 with fail
    go_region
    all_goals go_end0
    all_goals (refine ⟨rfl, ?_⟩; exact hfin _)
theorem field_q (qa : Int) (qb : Bool) (qp : Option Addr) (qn qc : Nat) (w : World) : (Instr.field 78 (.agg #[.int .i64 qa, .bool qb, .slice qp qn qc]) 2).run Try.prog w = .ok (.slice qp qn qc) w := by kernel_rfl
set_option maxHeartbeats 1000000 in
theorem release_n (C M A : Nat) (mac ag pa ro wa la wt : Int) (ow : Value) (ga : Int → Option (Int × Bool × Sl)) (ip : Int) (w : World) (hC : At w C (cV mac ag pa ro wa ow la M A wt)) (hA : AM w A ga) (hne : C ≠ A) (hk : (Lit.int .i64 ip).wf = true) (hg : ga ip = none) (hwt : 0 ≤ wt ∧ wt ≤ 5000) :
    Calls Try.prog 27 #[.pointer (some ⟨C, 0, none⟩), .int .i64 ip] w fun e w' => e = .returned (.slice none 0 0) ∧ At w' C (cV mac ag pa ro wa ow la M A wt) ∧ AM w' A ga ∧ Turn (fun k => k = A ∨ k = C) w w' := by
  obtain ⟨al, hV, hv⟩ := hA
  have hvk := hv ip
  rw [hg, Option.map_none] at hvk
  have c8 : w.cell? ⟨C, 8, none⟩ = some (.map (some A)) := (hC.2 8 _ rfl).1
  have c9 : w.cell? ⟨C, 9, none⟩ = some (.int .i64 wt) := (hC.2 9 _ rfl).1
  have hlook := hV.look Try.underlying62 zeroQ hk
  rw [hvk, Option.getD_none, show av (0, false, none, 0, 0) = .agg #[.int .i64 0, .bool false, .slice none 0 0] from rfl] at hlook
  have hfq := field_q
  go_enter Try.func27, Try.ntmps27
  go_wp2_with (first
    | (at_delete; refine wpList_delete_vm rfl _ _ rfl A al ip hk Try.underlying62 rfl hV rfl ?_; intro w1 hV1 ht1; have hC1 := hC.turn ht1 hne; have d9 : w1.cell? ⟨C, 9, none⟩ = some (.int .i64 wt) := (hC1.2 9 _ rfl).1; have f9 : w1.frozen? ⟨C, 9, none⟩ = false := (hC1.2 9 _ rfl).2)
    | go_in)
  go_ret
  have ts := turn_set w1 C 9 (.int .i64 wt)
  refine ⟨rfl, hC1.set 9 _, ⟨_, hV1.turn ts (Ne.symm hne), fun x => ?_⟩, (ht1.mono (fun k h => Or.inl h)).trans (ts.mono (fun k h => Or.inr h))⟩
  rw [vlk_del hV.2, hv]
  by_cases hx : x = ip
  · rw [if_pos hx, hx, hg]; rfl
  · rw [if_neg hx]
set_option maxHeartbeats 1000000 in
theorem release_s (C M A : Nat) (mac ag pa ro wa la wt : Int) (ow : Value) (ga : Int → Option (Int × Bool × Sl)) (ip qa : Int) (qb : Bool) (qp : Option Addr) (qn qc : Nat) (w : World) (hC : At w C (cV mac ag pa ro wa ow la M A wt)) (hA : AM w A ga) (hne : C ≠ A) (hk : (Lit.int .i64 ip).wf = true) (hg : ga ip = some (qa, qb, qp, qn, qc)) (hwt : 0 ≤ wt ∧ wt ≤ 5000) (hqn : qn < 5000) :
    Calls Try.prog 27 #[.pointer (some ⟨C, 0, none⟩), .int .i64 ip] w fun e w' => e = .returned (.slice qp qn qc) ∧ At w' C (cV mac ag pa ro wa ow la M A (wt - qn)) ∧ AM w' A (fun x => if x = ip then none else ga x) ∧ Turn (fun k => k = A ∨ k = C) w w' := by
  obtain ⟨al, hV, hv⟩ := hA
  have hvk := hv ip
  rw [hg, Option.map_some] at hvk
  have c8 : w.cell? ⟨C, 8, none⟩ = some (.map (some A)) := (hC.2 8 _ rfl).1
  have c9 : w.cell? ⟨C, 9, none⟩ = some (.int .i64 wt) := (hC.2 9 _ rfl).1
  have hlook := hV.look Try.underlying62 zeroQ hk
  rw [hvk, Option.getD_some, show av (qa, qb, qp, qn, qc) = .agg #[.int .i64 qa, .bool qb, .slice qp qn qc] from rfl] at hlook
  have hfq := field_q
  go_enter Try.func27, Try.ntmps27
  go_wp2_with (first
    | (at_delete; refine wpList_delete_vm rfl _ _ rfl A al ip hk Try.underlying62 rfl hV rfl ?_; intro w1 hV1 ht1; have hC1 := hC.turn ht1 hne; have d9 : w1.cell? ⟨C, 9, none⟩ = some (.int .i64 wt) := (hC1.2 9 _ rfl).1; have f9 : w1.frozen? ⟨C, 9, none⟩ = false := (hC1.2 9 _ rfl).2)
    | go_in)
  go_ret
  have ts := turn_set w1 C 9 (.int .i64 (wt - qn))
  refine ⟨rfl, hC1.set 9 _, ⟨_, hV1.turn ts (Ne.symm hne), fun x => ?_⟩, (ht1.mono (fun k h => Or.inl h)).trans (ts.mono (fun k h => Or.inr h))⟩
  rw [vlk_del hV.2, hv]
  by_cases hx : x = ip
  · rw [if_pos hx]; simp [hx]
  · rw [if_neg hx]; simp [hx]
set_option maxHeartbeats 1000000 in
theorem question_t (C M A g c : Nat) (mac ag pa ro wa la wt : Int) (base : Nat) (x to_ : Int) (w : World) (hC : At w C (cV mac ag pa ro wa (.slice (some ⟨g, 0, none⟩) 1 c) la M A wt)) (hO : Ints w base (.slice (some ⟨g, 0, none⟩) 1 c) [x]) (hm : mayA 1 mac x 0 to_ = true) :
    Calls Try.prog 31 #[.pointer (some ⟨C, 0, none⟩), .int .i64 to_] w fun e w' => e = .returned (.agg #[.int .i64 1, .int .i64 mac, .int .i64 x, .int .i64 0, .int .i64 to_]) ∧ Below w.heap.size w w' := by
  have q1 := bel1 w (.cells #[.int .i64 0, .int .i64 0, .int .i64 0, .int .i64 0, .int .i64 0] 31)
  have hR := At.box w #[.int .i64 0, .int .i64 0, .int .i64 0, .int .i64 0, .int .i64 0] 31
  have hC1 := hC.later q1
  have hO1 := (hO.later q1).cells.2 0 (by simp)
  rw [Nat.zero_add] at hO1
  go_enter Try.func31, Try.ntmps31
  go_upto_region 1 with fail
  generalize w.alloc (.cells #[.int .i64 0, .int .i64 0, .int .i64 0, .int .i64 0, .int .i64 0] 31) = w1 at *
  have c0 : w1.cell? ⟨C, 0, none⟩ = some (.int .i64 mac) := (hC1.2 0 _ rfl).1
  have c5 : w1.cell? ⟨C, 5, none⟩ = some (.slice (some ⟨g, 0, none⟩) 1 c) := (hC1.2 5 _ rfl).1
  have hO2 : w1.cell? ⟨g, 0, none⟩ = some (.int .i64 x) := hO1
  clear hO1
  go_wp2_with fail
  refine (ask_t hm w1).mono ?_
  rintro e w2 ⟨rfl, hb2⟩
  have q3 := bel1 w2 (.cells #[.int .i64 1, .int .i64 mac, .int .i64 x, .int .i64 0, .int .i64 to_] 31)
  have hR3 := (hR.later hb2).later q3
  have hX := At.box w2 #[.int .i64 1, .int .i64 mac, .int .i64 x, .int .i64 0, .int .i64 to_] 31
  have hb3 := bt q1 (bt hb2 q3)
  go_upto_region 5 with fail
  generalize w2.alloc (.cells #[.int .i64 1, .int .i64 mac, .int .i64 x, .int .i64 0, .int .i64 to_] 31) = w3 at *
  obtain ⟨⟨r0, r1, r2, r3, r4⟩, ⟨f0, f1, f2, f3, f4⟩, fb⟩ := hR3.five
  obtain ⟨⟨x0, x1, x2, x3, x4⟩, -, xb⟩ := hX.five
  go_wp2
  exact bodyPost_ret (v := .agg #[.int .i64 1, .int .i64 mac, .int .i64 x, .int .i64 0, .int .i64 to_]) (by simp [results, Try.results31, go_sem, r0, r1, r2, r3, r4]) rfl ⟨rfl, below5 hb3 (Nat.le_refl _) _ _ _ _ _⟩
end Go.Proofs.Ytjldcillackhdaa
