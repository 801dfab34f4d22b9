/- Proved: what any bytes are as an ICMP packet is as the document has it; no condition. -/
import Derived.Test.YtbbeepkcejiafaaRows
import Derived.Test.YtbbeepkcejiafaaIcq
import Derived.Test.YtbbeepkcejiafaaIce
import Derived.WalkKit
import Derived.ProofKit
import Derived.OpenShut
import Derived.ShutString
import Derived.ChangeOld
import Derived.Below
import Derived.Carry
import Derived.SizedLaws
namespace Go.Proofs.Ytbbeepkcejiafaa.icmpReads
open Go.ChangeShapes Go.WideShapes Go.ChangeAt Go.RowKit
open Go.ChangeMaps (open_string)
set_option linter.unusedVariables false

theorem own : ownKnob Try.prog.godebug = none := by kernel_rfl
theorem laidOut : laidOutB Try.prog = true := by kernel_rfl

-- WALK
set_option maxRecDepth 100000 in
set_option maxHeartbeats 2000000 in
theorem walk_60 (s : ByteArray) (w : World)
    (h1 : ∀ W, Calls Try.prog 16 #[.string s] W fun e w' => e = .returned (.tuple #[.agg #[.int .i64 0, .int .i64 0, .int .i64 0, .int .i64 0, .string ⟨#[]⟩], .int .i64 60]) ∧ Below W.heap.size W w')
    (h2 : ∀ W, Calls Try.prog 17 #[.string s] W fun e w' => e = .returned (.tuple #[.agg #[.int .i64 0, .int .i64 0, .int .i64 0, .int .i64 0, .string ⟨#[]⟩], .int .i64 60]) ∧ Below W.heap.size W w') :
    Calls Try.prog 4 #[.string s] w fun e w' => e = .returned (.bool true) ∧ Below w.heap.size w w' := by
  go_enter Try.func4, Try.ntmps4
  go_wp2_with fail
  refine (h1 _).mono ?_
  rintro e w1 ⟨rfl, hb⟩
  have hl := bt hb (bel1 w1 (.cells #[.int .i64 0, .int .i64 0, .int .i64 0, .int .i64 0, .string ⟨#[]⟩] 23))
  have hX := At.box w1 #[.int .i64 0, .int .i64 0, .int .i64 0, .int .i64 0, .string ⟨#[]⟩] 23
  clear hb
  go_wp2_with fail
  refine (h2 _).mono ?_
  rintro e w2 ⟨rfl, hb⟩
  replace hl := bt (bt hl hb) (bel1 w2 (.cells #[.int .i64 0, .int .i64 0, .int .i64 0, .int .i64 0, .string ⟨#[]⟩] 23))
  replace hX := (hX.later hb).later (bel1 w2 (.cells #[.int .i64 0, .int .i64 0, .int .i64 0, .int .i64 0, .string ⟨#[]⟩] 23))
  clear hb
  obtain ⟨⟨c0, c1, c2, c3, c4⟩, -, -⟩ := hX.five
  go_wp2_with fail
  refine (iworks_any _).mono ?_
  rintro e w3 ⟨rfl, hb⟩
  replace hl := bt hl hb
  go_wp2
  go_ret
  exact ⟨rfl, hl⟩
set_option maxRecDepth 100000 in
set_option maxHeartbeats 2000000 in
theorem walk_20 (s : ByteArray) (w : World)
    (h1 : ∀ W, Calls Try.prog 16 #[.string s] W fun e w' => e = .returned (.tuple #[.agg #[.int .i64 0, .int .i64 0, .int .i64 0, .int .i64 0, .string ⟨#[]⟩], .int .i64 20]) ∧ Below W.heap.size W w')
    (h2 : ∀ W, Calls Try.prog 17 #[.string s] W fun e w' => e = .returned (.tuple #[.agg #[.int .i64 0, .int .i64 0, .int .i64 0, .int .i64 0, .string ⟨#[]⟩], .int .i64 20]) ∧ Below W.heap.size W w') :
    Calls Try.prog 4 #[.string s] w fun e w' => e = .returned (.bool true) ∧ Below w.heap.size w w' := by
  go_enter Try.func4, Try.ntmps4
  go_wp2_with fail
  refine (h1 _).mono ?_
  rintro e w1 ⟨rfl, hb⟩
  have hl := bt hb (bel1 w1 (.cells #[.int .i64 0, .int .i64 0, .int .i64 0, .int .i64 0, .string ⟨#[]⟩] 23))
  have hX := At.box w1 #[.int .i64 0, .int .i64 0, .int .i64 0, .int .i64 0, .string ⟨#[]⟩] 23
  clear hb
  go_wp2_with fail
  refine (h2 _).mono ?_
  rintro e w2 ⟨rfl, hb⟩
  replace hl := bt (bt hl hb) (bel1 w2 (.cells #[.int .i64 0, .int .i64 0, .int .i64 0, .int .i64 0, .string ⟨#[]⟩] 23))
  replace hX := (hX.later hb).later (bel1 w2 (.cells #[.int .i64 0, .int .i64 0, .int .i64 0, .int .i64 0, .string ⟨#[]⟩] 23))
  clear hb
  obtain ⟨⟨c0, c1, c2, c3, c4⟩, -, -⟩ := hX.five
  go_wp2_with fail
  refine (iworks_any _).mono ?_
  rintro e w3 ⟨rfl, hb⟩
  replace hl := bt hl hb
  go_wp2
  go_ret
  exact ⟨rfl, hl⟩
set_option maxRecDepth 100000 in
set_option maxHeartbeats 2000000 in
theorem walk_0 (s : ByteArray) (w : World)
    (h1 : ∀ W, Calls Try.prog 16 #[.string s] W fun e w' => e = .returned (.tuple #[.agg #[.int .i64 (iTy s), .int .i64 (iCo s), .int .i64 (iX s), .int .i64 (iY s), .string (iDa s)], .int .i64 0]) ∧ Below W.heap.size W w')
    (h2 : ∀ W, Calls Try.prog 17 #[.string s] W fun e w' => e = .returned (.tuple #[.agg #[.int .i64 (iTy s), .int .i64 (iCo s), .int .i64 (iX s), .int .i64 (iY s), .string (iDa s)], .int .i64 0]) ∧ Below W.heap.size W w') :
    Calls Try.prog 4 #[.string s] w fun e w' => e = .returned (.bool true) ∧ Below w.heap.size w w' := by
  go_enter Try.func4, Try.ntmps4
  go_wp2_with fail
  refine (h1 _).mono ?_
  rintro e w1 ⟨rfl, hb⟩
  have hl := bt hb (bel1 w1 (.cells #[.int .i64 (iTy s), .int .i64 (iCo s), .int .i64 (iX s), .int .i64 (iY s), .string (iDa s)] 23))
  have hX := At.box w1 #[.int .i64 (iTy s), .int .i64 (iCo s), .int .i64 (iX s), .int .i64 (iY s), .string (iDa s)] 23
  clear hb
  go_wp2_with fail
  refine (h2 _).mono ?_
  rintro e w2 ⟨rfl, hb⟩
  replace hl := bt (bt hl hb) (bel1 w2 (.cells #[.int .i64 (iTy s), .int .i64 (iCo s), .int .i64 (iX s), .int .i64 (iY s), .string (iDa s)] 23))
  replace hX := (hX.later hb).later (bel1 w2 (.cells #[.int .i64 (iTy s), .int .i64 (iCo s), .int .i64 (iX s), .int .i64 (iY s), .string (iDa s)] 23))
  clear hb
  obtain ⟨⟨c0, c1, c2, c3, c4⟩, -, -⟩ := hX.five
  go_wp2_with fail
  refine (iworks_any _).mono ?_
  rintro e w3 ⟨rfl, hb⟩
  replace hl := bt hl hb
  go_wp2
  go_ret
  exact ⟨rfl, hl⟩

theorem walk (s : ByteArray) (_ : s.size ≤ maxLen) (hs0 : s.size ≤ 140737488351232) (w : World) :
    Calls Try.prog 4 #[.string s] w fun e w' => e = .returned (.bool true) ∧ Below w.heap.size w w' := by
  have hs : s.size ≤ 1125899906842624 := by omega
  by_cases h8 : 8 ≤ (s.size : Int)
  · by_cases h9 : (s.size : Int) ≤ 65508
    · cases h : (sumS s == 0)
      · exact walk_20 s w (fun W => idec_2 h8 h9 h W) (fun W => irdec_2 h8 h9 h W)
      · exact walk_0 s w (fun W => idec_3 h8 h9 h W) (fun W => irdec_3 h8 h9 h W)
    · exact walk_60 s w (fun W => idec_1 (.inr ⟨h8, by omega⟩) W hs) (fun W => irdec_1 (.inr ⟨h8, by omega⟩) W hs)
  · exact walk_60 s w (fun W => idec_1 (.inl (by omega)) W hs) (fun W => irdec_1 (.inl (by omega)) W hs)

set_option maxRecDepth 100000 in
theorem lifted (os : Os) (started : os.Started) (H : Type) (enc : TypeId × Value → H) :
    ReturnsInHanded {} Try.checked os 4 .any (Rows.icmpReadsSpec.pre6 enc Try.prog Try.f4 Rows.icmpReadsRow.domain false) (Rows.icmpReadsSpec.post enc Try.prog Try.f4 false true false false) := by
  refine returnsInHanded_of_change_sized (C := Try.checked) own started (by kernel_rfl) Try.func4
    (ChangeSpec.witness6 (enc := enc) (C := Try.checked) false ⟨#[], #[.string ByteArray.empty], []⟩ 8 (by kernel_rfl) (by kernel_rfl) (by kernel_rfl) (by kernel_rfl)) ?_
  intro W base args ds gs before hval0 hW hcnd hsz0 _
  have hsz : (DataW.weightsEach Try.prog (Try.f4.params.toList ++ Rows.icmpReadsSpec.plain.varTypes Try.prog) (ds ++ gs)).all (· ≤ reachBytes) = true := hsz0
  have hval : ∀ (j : Nat) t v, Try.f4.params[j]? = some t → args[j]? = some v → Value.okWide Try.prog W .any base t v := hval0
  have hW' := hW
  obtain ⟨p, q, hA0, hV, rfl, hfz, hnd⟩ := hW
  have hA : DataW.TrodAll enc Try.prog W 0 (fun _ => true) true Try.f4.params.toList args.toList ds p := hA0
  rw [Try.params4] at hA hval hsz
  obtain ⟨v0, vs0, d0, ds0, p0, q0, hargs, rfl, rfl, h0, r0⟩ := trodAll_cons hA
  obtain ⟨rfl, rfl, rfl⟩ := trodAll_nil r0
  obtain rfl : args = #[v0] := by cases args; simp_all
  obtain ⟨rfl, rfl⟩ := trodVars_none hV
  have k0 := h0
  have lt0 : ∀ x ∈ p0, x.block < W.heap.size := by obtain ⟨m, hm⟩ := k0; exact DataW.trod_lt m _ _ _ hm
  obtain ⟨a0, rfl, e0, -, w0⟩ := open_string Try.underlying9 (hval 0 9 v0 rfl rfl) h0
  have z0 : a0.size ≤ 140737488351232 := by
    have := sized_string hsz (j := 0) (t := 9) rfl (by rw [e0]; rfl)
    simp only [reachBytes] at this
    simpa using this
  clear hA0 hval0
  refine (walk a0 w0 z0 W ).mono fun e W' ⟨he, bel⟩ => ?_
  subst he
  exact ⟨_, rfl, _, _, _, [], _, [], hW', trodAll_mk1 (shut_bool Try.underlying4 _), (trodAll_cons_mk (Below.trod laidOut (by kernel_rfl) (of_decide_eq_true (by kernel_rfl)) k0 bel lt0) trodAll_mk0), rfl, bel.frame _, fun h => by cases h⟩

theorem over : Rows.icmpReadsRow.holds Try.pinned (OpenSpec.ofChange Rows.icmpReadsSpec) :=
  OpenClaim.holds_of_wide 4 Try.f4 rfl rfl rfl rfl rfl rfl rfl ⟨rfl, rfl, rfl, rfl, rfl⟩ rfl rfl rfl rfl rfl (by kernel_rfl) Try.func4 (by kernel_rfl)
    (of_decide_eq_true (by kernel_rfl)) (by unfold Func.isWrapper; first | (rw [if_pos (by decide +kernel)]; kernel_rfl) | (rw [if_neg (by decide +kernel)]; exact ⟨rfl, rfl⟩))
    (fun os started H enc _ => lifted os started H enc)

end Go.Proofs.Ytbbeepkcejiafaa.icmpReads
namespace Go.Proofs.Ytbbeepkcejiafaa
theorem icmpReads_holds : Rows.IcmpReadsSaid := icmpReads.over
end Go.Proofs.Ytbbeepkcejiafaa
