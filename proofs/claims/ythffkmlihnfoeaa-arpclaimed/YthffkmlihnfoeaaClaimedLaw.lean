/- A claim of any address is a claim, to nobody else; what answers a question for another address is none; and a claim that is answered tells who claimed it: for all numbers. -/
import Derived.Test.YthffkmlihnfoeaaRows
import Derived.Test.YthffkmlihnfoeaaAsets
import Derived.WalkKit
import Derived.ProofKit
import Derived.OpenShut
import Derived.ShutString
import Derived.ChangeOld
import Derived.Below
import Derived.Carry
import Derived.SizedLaws
namespace Go.Proofs.Ythffkmlihnfoeaa.arpClaimed
open Go.ChangeShapes Go.WideShapes Go.ChangeAt Go.RowKit
open Go.ChangeMaps (open_string)
set_option linter.unusedVariables false

theorem own : ownKnob Try.prog.godebug = none := by kernel_rfl
theorem laidOut : laidOutB Try.prog = true := by kernel_rfl

-- WALK
theorem cl_c {mac ip : Int} (h : mayA 1 mac ip 0 ip = true) (w : World) : Calls Try.prog 13 #[.agg #[.int .i64 1, .int .i64 mac, .int .i64 ip, .int .i64 0, .int .i64 ip]] w fun e w' => e = .returned (.bool true) ∧ Below w.heap.size w w' := by
  have := isc_any 1 mac ip 0 ip w
  unfold clB at this
  rw [h, show (ip == ip) = true from beq_self_eq_true _] at this
  exact this
theorem tellZ : tellB 0 0 0 0 0 7 = false := by decide +kernel
theorem may7 {mac ip other : Int} (h : mayA 1 mac ip 0 other = true) : mayA 2 7 other mac ip = true := by
  obtain ⟨-, h1, -, h3, -, h5⟩ := mayA_parts h
  exact mayA_t ⟨.inr rfl, by decide, by decide, h5, h1, h3⟩
theorem tell7 {mac ip other : Int} (h : mayA 1 mac ip 0 other = true) : tellB 1 mac ip 0 other 7 = true := by
  unfold tellB
  rw [h, may7 h]
  rfl
theorem cl_t {mac ip other : Int} (h : mayA 1 mac ip 0 other = true) (w : World) : Calls Try.prog 13 #[.agg #[.int .i64 2, .int .i64 7, .int .i64 other, .int .i64 mac, .int .i64 ip]] w fun e w' => e = .returned (.bool (ip == other)) ∧ Below w.heap.size w w' := by
  have := isc_any 2 7 other mac ip w
  unfold clB at this
  rw [may7 h, Bool.true_and, show (other == ip) = (ip == other) from BEq.comm] at this
  exact this

set_option maxRecDepth 100000 in
set_option maxHeartbeats 4000000 in
theorem walk_f (mac ip other : Int) (w : World) (h : mayA 1 mac ip 0 ip = false) :
    Calls Try.prog 8 #[.int .i64 mac, .int .i64 ip, .int .i64 other] w fun e w' => e = .returned (.bool true) ∧ Below w.heap.size w w' := by
  go_enter Try.func8, Try.ntmps8
  go_wp2_with fail
  refine (works_any _).mono ?_
  rintro e w1 ⟨rfl, l1⟩
  go_wp2_with fail
  refine (clm_f h _).mono ?_
  rintro e w2 ⟨rfl, l2⟩
  have hl := bt (bt l1 l2) (bel1 w2 (.cells #[.int .i64 0, .int .i64 0, .int .i64 0, .int .i64 0, .int .i64 0] 23))
  go_wp2
  go_ret
  exact ⟨rfl, hl⟩

set_option maxRecDepth 100000 in
set_option maxHeartbeats 4000000 in
theorem walk_tf (mac ip other : Int) (w : World) (h : mayA 1 mac ip 0 ip = true) (g : mayA 1 mac ip 0 other = false) :
    Calls Try.prog 8 #[.int .i64 mac, .int .i64 ip, .int .i64 other] w fun e w' => e = .returned (.bool true) ∧ Below w.heap.size w w' := by
  go_enter Try.func8, Try.ntmps8
  go_wp2_with fail
  refine (works_any _).mono ?_
  rintro e w1 ⟨rfl, l1⟩
  go_wp2_with fail
  refine (clm_t h _).mono ?_
  rintro e w2 ⟨rfl, l2⟩
  have hl := bt (bt l1 l2) (bel1 w2 (.cells #[.int .i64 1, .int .i64 mac, .int .i64 ip, .int .i64 0, .int .i64 ip] 23))
  have hC := At.box w2 #[.int .i64 1, .int .i64 mac, .int .i64 ip, .int .i64 0, .int .i64 ip] 23
  go_wp2_with fail
  refine (ask_f g _).mono ?_
  rintro e w3 ⟨rfl, l⟩
  have hl := bt (bt hl l) (bel1 w3 (.cells #[.int .i64 0, .int .i64 0, .int .i64 0, .int .i64 0, .int .i64 0] 23))
  have hC := (hC.later l).later (bel1 w3 (.cells #[.int .i64 0, .int .i64 0, .int .i64 0, .int .i64 0, .int .i64 0] 23))
  go_wp2_with fail
  refine (tell_f tellZ _).mono ?_
  rintro e w4 ⟨rfl, l⟩
  have hl := bt (bt hl l) (bel1 w4 (.cells #[.int .i64 0, .int .i64 0, .int .i64 0, .int .i64 0, .int .i64 0] 23))
  have hC := (hC.later l).later (bel1 w4 (.cells #[.int .i64 0, .int .i64 0, .int .i64 0, .int .i64 0, .int .i64 0] 23))
  obtain ⟨⟨a0, a1, a2, a3, a4⟩, -, -⟩ := hC.five
  clear hC l
  generalize w2.heap.size = b2 at *
  go_wp2_with fail
  refine (cl_c h _).mono ?_
  rintro e w5 ⟨rfl, l⟩
  have hl := bt hl l
  go_wp2
  go_ret
  exact ⟨rfl, hl⟩

set_option maxRecDepth 100000 in
set_option maxHeartbeats 4000000 in
theorem walk_tt (mac ip other : Int) (w : World) (h : mayA 1 mac ip 0 ip = true) (g : mayA 1 mac ip 0 other = true) :
    Calls Try.prog 8 #[.int .i64 mac, .int .i64 ip, .int .i64 other] w fun e w' => e = .returned (.bool true) ∧ Below w.heap.size w w' := by
  go_enter Try.func8, Try.ntmps8
  go_wp2_with fail
  refine (works_any _).mono ?_
  rintro e w1 ⟨rfl, l1⟩
  go_wp2_with fail
  refine (clm_t h _).mono ?_
  rintro e w2 ⟨rfl, l2⟩
  have hl := bt (bt l1 l2) (bel1 w2 (.cells #[.int .i64 1, .int .i64 mac, .int .i64 ip, .int .i64 0, .int .i64 ip] 23))
  have hC := At.box w2 #[.int .i64 1, .int .i64 mac, .int .i64 ip, .int .i64 0, .int .i64 ip] 23
  go_wp2_with fail
  refine (ask_t g _).mono ?_
  rintro e w3 ⟨rfl, l⟩
  have hl := bt (bt hl l) (bel1 w3 (.cells #[.int .i64 1, .int .i64 mac, .int .i64 ip, .int .i64 0, .int .i64 other] 23))
  have hC := (hC.later l).later (bel1 w3 (.cells #[.int .i64 1, .int .i64 mac, .int .i64 ip, .int .i64 0, .int .i64 other] 23))
  go_wp2_with fail
  refine (tell_y (tell7 g) _).mono ?_
  rintro e w4 ⟨rfl, l⟩
  have hl := bt (bt hl l) (bel1 w4 (.cells #[.int .i64 2, .int .i64 7, .int .i64 other, .int .i64 mac, .int .i64 ip] 23))
  have hC := (hC.later l).later (bel1 w4 (.cells #[.int .i64 2, .int .i64 7, .int .i64 other, .int .i64 mac, .int .i64 ip] 23))
  have hT := At.box w4 #[.int .i64 2, .int .i64 7, .int .i64 other, .int .i64 mac, .int .i64 ip] 23
  obtain ⟨⟨a0, a1, a2, a3, a4⟩, -, -⟩ := hC.five
  clear l
  go_wp2_with fail
  refine (cl_c h _).mono ?_
  rintro e w5 ⟨rfl, l⟩
  clear a0 a1 a2 a3 a4
  have hl := bt hl l
  have hC := hC.later l
  have hT := hT.later l
  obtain ⟨⟨a0, a1, a2, a3, a4⟩, -, -⟩ := hC.five
  obtain ⟨⟨t0, t1, t2, t3, t4⟩, -, -⟩ := hT.five
  generalize w2.heap.size = b2 at *
  generalize w4.heap.size = b4 at *
  go_wp2_with fail
  refine (cl_t g _).mono ?_
  rintro e w6 ⟨rfl, l⟩
  clear a0 a1 a2 a3 a4 t0 t1 t2 t3 t4
  have hl := bt hl l
  obtain ⟨⟨t0, t1, t2, t3, t4⟩, -, -⟩ := (hT.later l).five
  go_wp2
  go_ret
  exact ⟨rfl, hl⟩

theorem walk (mac : Int) (_ : (Lit.int .i64 mac).wf = true) (ip : Int) (_ : (Lit.int .i64 ip).wf = true) (other : Int) (_ : (Lit.int .i64 other).wf = true) (w : World) :
    Calls Try.prog 8 #[.int .i64 mac, .int .i64 ip, .int .i64 other] w fun e w' => e = .returned (.bool true) ∧ Below w.heap.size w w' := by
  rcases Bool.eq_false_or_eq_true (mayA 1 mac ip 0 ip) with h | h
  · rcases Bool.eq_false_or_eq_true (mayA 1 mac ip 0 other) with g | g
    · exact walk_tt mac ip other w h g
    · exact walk_tf mac ip other w h g
  · exact walk_f mac ip other w h

set_option maxRecDepth 100000 in
theorem lifted (os : Os) (started : os.Started) (H : Type) (enc : TypeId × Value → H) :
    ReturnsInHanded {} Try.checked os 8 .any (Rows.arpClaimedSpec.pre6 enc Try.prog Try.f8 Rows.arpClaimedRow.domain false) (Rows.arpClaimedSpec.post enc Try.prog Try.f8 false true false false) := by
  refine returnsInHanded_of_change (C := Try.checked) own started (by kernel_rfl) Try.func8
    (ChangeSpec.witness6 (enc := enc) (C := Try.checked) false ⟨#[], #[.int .i64 0, .int .i64 0, .int .i64 0], []⟩ 8 (by kernel_rfl) (by kernel_rfl) (by kernel_rfl) (by kernel_rfl)) ?_
  intro W base args ds gs before hval0 hW hcnd _
  have hval : ∀ (j : Nat) t v, Try.f8.params[j]? = some t → args[j]? = some v → Value.okWide Try.prog W .any base t v := hval0
  have hW' := hW
  obtain ⟨p, q, hA0, hV, rfl, hfz, hnd⟩ := hW
  have hA : DataW.TrodAll enc Try.prog W 0 (fun _ => true) true Try.f8.params.toList args.toList ds p := hA0
  rw [Try.params8] at hA hval
  obtain ⟨v0, vs0, d0, ds0, p0, q0, hargs, rfl, rfl, h0, r0⟩ := trodAll_cons hA
  obtain ⟨v1, vs1, d1, ds1, p1, q1, rfl, rfl, rfl, h1, r1⟩ := trodAll_cons r0
  obtain ⟨v2, vs2, d2, ds2, p2, q2, rfl, rfl, rfl, h2, r2⟩ := trodAll_cons r1
  obtain ⟨rfl, rfl, rfl⟩ := trodAll_nil r2
  obtain rfl : args = #[v0, v1, v2] := by cases args; simp_all
  obtain ⟨rfl, rfl⟩ := trodVars_none hV
  have k0 := h0
  have lt0 : ∀ x ∈ p0, x.block < W.heap.size := by obtain ⟨m, hm⟩ := k0; exact DataW.trod_lt m _ _ _ hm
  have k1 := h1
  have lt1 : ∀ x ∈ p1, x.block < W.heap.size := by obtain ⟨m, hm⟩ := k1; exact DataW.trod_lt m _ _ _ hm
  have k2 := h2
  have lt2 : ∀ x ∈ p2, x.block < W.heap.size := by obtain ⟨m, hm⟩ := k2; exact DataW.trod_lt m _ _ _ hm
  obtain ⟨a0, rfl, -, -, w0⟩ := open_int Try.underlying3 (hval 0 3 v0 rfl rfl) h0
  obtain ⟨a1, rfl, -, -, w1⟩ := open_int Try.underlying3 (hval 1 3 v1 rfl rfl) h1
  obtain ⟨a2, rfl, -, -, w2⟩ := open_int Try.underlying3 (hval 2 3 v2 rfl rfl) h2
  clear hA0 hval0
  refine (walk a0 w0 a1 w1 a2 w2 W ).mono fun e W' ⟨he, bel⟩ => ?_
  subst he
  exact ⟨_, rfl, _, _, _, [], _, [], hW', trodAll_mk1 (shut_bool Try.underlying4 _), (trodAll_cons_mk (Below.trod laidOut (by kernel_rfl) (of_decide_eq_true (by kernel_rfl)) k0 bel lt0) (trodAll_cons_mk (Below.trod laidOut (by kernel_rfl) (of_decide_eq_true (by kernel_rfl)) k1 bel lt1) (trodAll_cons_mk (Below.trod laidOut (by kernel_rfl) (of_decide_eq_true (by kernel_rfl)) k2 bel lt2) trodAll_mk0))), rfl, bel.frame _, fun h => by cases h⟩

theorem over : Rows.arpClaimedRow.holds Try.pinned (OpenSpec.ofChange Rows.arpClaimedSpec) :=
  OpenClaim.holds_of_wide 8 Try.f8 rfl rfl rfl rfl rfl rfl rfl ⟨rfl, rfl, rfl, rfl, rfl⟩ rfl rfl rfl rfl rfl (by kernel_rfl) Try.func8 (by kernel_rfl)
    (of_decide_eq_true (by kernel_rfl)) (by unfold Func.isWrapper; first | (rw [if_pos (by decide +kernel)]; kernel_rfl) | (rw [if_neg (by decide +kernel)]; exact ⟨rfl, rfl⟩))
    (fun os started H enc _ => lifted os started H enc)

end Go.Proofs.Ythffkmlihnfoeaa.arpClaimed
namespace Go.Proofs.Ythffkmlihnfoeaa
theorem arpClaimed_holds : Rows.ArpClaimedSaid := arpClaimed.over
end Go.Proofs.Ythffkmlihnfoeaa
