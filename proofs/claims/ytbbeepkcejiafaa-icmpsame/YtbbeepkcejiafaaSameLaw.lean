/- Proved: the bytes of an echo's answer are those of its question, but for the kind and the sum; no condition. -/
import Derived.Test.YtbbeepkcejiafaaRows
import Derived.Test.YtbbeepkcejiafaaIcp
import Derived.WalkKit
import Derived.ProofKit
import Derived.OpenShut
import Derived.ShutString
import Derived.ChangeOld
import Derived.Below
import Derived.Carry
import Derived.SizedLaws
namespace Go.Proofs.Ytbbeepkcejiafaa.icmpSame
open Go.ChangeShapes Go.WideShapes Go.ChangeAt Go.RowKit
open Go.ChangeMaps (open_string)
set_option linter.unusedVariables false

theorem own : ownKnob Try.prog.godebug = none := by kernel_rfl
theorem laidOut : laidOutB Try.prog = true := by kernel_rfl

-- WALK
theorem run_from (s : ByteArray) (a : Int) (x : ByteArray) (hx : s.extract a.toNat s.size = x) (h : a ≤ s.size) (h0 : 0 ≤ a) : ∀ W, (Instr.slice 9 (.string s) (some (.int .i64 a)) none none).run Try.prog W = .ok (.string x) W := fun W => by
  rw [run_slice_string_from_if W 9 s .i64 a Try.underlying9, if_pos ⟨h0, h⟩, hx]
theorem run_ix (s : ByteArray) (i : Nat) (x : Int) (h : i < s.size) (hx : (s[i].toNat : Int) = x) : ∀ W, (Instr.index 9 (.string s) (.int .i64 (i : Int))).run Try.prog W = .ok (.int .u8 x) W := fun W => by
  rw [run_index_string W 9 s .i64 i Try.underlying9, dif_pos ⟨by omega, by omega⟩, ← hx]; rfl

set_option maxRecDepth 100000 in
set_option maxHeartbeats 4000000 in
theorem walk_n {x y : Int} {da : ByteArray} (w : World) (hd : da.size ≤ 1125899906842624) (hm : mayI 8 0 x y da.size = false) :
    Calls Try.prog 8 #[.int .i64 x, .int .i64 y, .string da] w fun e w' => e = .returned (.bool true) ∧ Below w.heap.size w w' := by
  have ha : askB 8 0 x y da.size = false := by unfold askB; rw [hm, Bool.and_false]
  go_enter Try.func8, Try.ntmps8
  go_wp2_with fail
  refine (iworks_any _).mono ?_
  rintro e w1 ⟨rfl, hl⟩
  have hA := At.box w1 #[.int .i64 8, .int .i64 0, .int .i64 x, .int .i64 y, .string da] 23
  replace hl := bt hl (bel1 w1 (.cells #[.int .i64 8, .int .i64 0, .int .i64 x, .int .i64 y, .string da] 23))
  go_wp2_with fail
  refine (ienc_n hm _ hd).mono ?_
  rintro e w2 ⟨rfl, hb⟩
  replace hl := bt hl hb
  obtain ⟨⟨c0, c1, c2, c3, c4⟩, -, -⟩ := (hA.later hb).five
  clear hA hb
  go_wp2_with fail
  refine (ans_f ha _ hd).mono ?_
  rintro e w3 ⟨rfl, hb⟩
  replace hl := bt (bt hl hb) (bel1 w3 (.cells #[.int .i64 0, .int .i64 0, .int .i64 0, .int .i64 0, .string ⟨#[]⟩] 23))
  go_wp2
  go_ret
  exact ⟨rfl, hl⟩
set_option maxRecDepth 100000 in
set_option maxHeartbeats 4000000 in
theorem walk_y {x y : Int} {da : ByteArray} (w : World) (hd : da.size ≤ 1125899906842624) (hm : mayI 8 0 x y da.size = true) :
    Calls Try.prog 8 #[.int .i64 x, .int .i64 y, .string da] w fun e w' => e = .returned (.bool true) ∧ Below w.heap.size w w' := by
  have hq := mayI_q hm
  have hm0 : mayI 0 0 x y da.size = true := mayI_t ⟨by decide, hq.2⟩
  have hz : da.size ≤ 65500 := hq.2.2.2.2
  have hE := fun W => ienc_y hm W
  have hU := fun W => ienc_y hm0 W
  have zE := encI_size 8 0 x y da
  have zU := encI_size 0 0 x y da
  have tE := encI_tail 8 0 x y da
  have tU := encI_tail 0 0 x y da
  obtain ⟨-, bE, -, -, -⟩ := encI_back hm
  obtain ⟨bU0, bU, -, -, -⟩ := encI_back hm0
  generalize encI 8 0 x y da = E at *
  generalize encI 0 0 x y da = U at *
  generalize txt x 2 ++ txt y 2 ++ da = Y at *
  have r1 := run_from E 4 Y tE (by omega) (by decide)
  have r2 := run_from U 4 Y tU (by omega) (by decide)
  have i1 : ∀ W, (Instr.index 9 (.string E) (.int .i64 1)).run Try.prog W = .ok (.int .u8 0) W := run_ix E 1 0 (by omega) ((byte_num E 1 (by omega)).trans bE)
  have i2 : ∀ W, (Instr.index 9 (.string U) (.int .i64 1)).run Try.prog W = .ok (.int .u8 0) W := run_ix U 1 0 (by omega) ((byte_num U 1 (by omega)).trans bU)
  have i3 : ∀ W, (Instr.index 9 (.string U) (.int .i64 0)).run Try.prog W = .ok (.int .u8 0) W := run_ix U 0 0 (by omega) ((byte_num U 0 (by omega)).trans bU0)
  have hs : E.size = U.size := by omega
  have hs' : (E.size : Int) = (U.size : Int) := by omega
  have hsb : ((E.size : Int) == (U.size : Int)) = true := by simpa using hs'
  have hUz : (U.size : Int) ≤ 65508 := by omega
  clear tE tU bE bU bU0 zE zU hq hz hm0
  go_enter Try.func8, Try.ntmps8
  go_wp2_with fail
  refine (iworks_any _).mono ?_
  rintro e w1 ⟨rfl, hl⟩
  have hA := At.box w1 #[.int .i64 8, .int .i64 0, .int .i64 x, .int .i64 y, .string da] 23
  replace hl := bt hl (bel1 w1 (.cells #[.int .i64 8, .int .i64 0, .int .i64 x, .int .i64 y, .string da] 23))
  go_wp2_with fail
  refine (hE _).mono ?_
  rintro e w2 ⟨rfl, hb⟩
  replace hl := bt hl hb
  obtain ⟨⟨c0, c1, c2, c3, c4⟩, -, -⟩ := (hA.later hb).five
  clear hA hb
  go_wp2_with fail
  refine (ans_t hm _ hd).mono ?_
  rintro e w3 ⟨rfl, hb⟩
  replace hl := bt (bt hl hb) (bel1 w3 (.cells #[.int .i64 0, .int .i64 0, .int .i64 x, .int .i64 y, .string da] 23))
  clear hb c0 c1 c2 c3 c4 hm
  go_wp2_with fail
  refine (hU _).mono ?_
  rintro e w4 ⟨rfl, hb⟩
  replace hl := bt hl hb
  clear hb hU hE
  have HL : Hid (Below w.heap.size w w4) := hl
  clear hl
  go_wp2
  go_region_held3 (fun _ => True) (trivial) (fail)
  all_goals
    go_wp2
    go_ret
    exact ⟨rfl, HL.out.drew⟩
theorem walk (x : Int) (_ : (Lit.int .i64 x).wf = true) (y : Int) (_ : (Lit.int .i64 y).wf = true) (da : ByteArray) (_ : da.size ≤ maxLen) (hd0 : da.size ≤ 140737488351232) (w : World) :
    Calls Try.prog 8 #[.int .i64 x, .int .i64 y, .string da] w fun e w' => e = .returned (.bool true) ∧ Below w.heap.size w w' := by
  have hd : da.size ≤ 1125899906842624 := by omega
  cases hm : mayI 8 0 x y da.size
  · exact walk_n w hd hm
  · exact walk_y w hd hm

set_option maxRecDepth 100000 in
theorem lifted (os : Os) (started : os.Started) (H : Type) (enc : TypeId × Value → H) :
    ReturnsInHanded {} Try.checked os 8 .any (Rows.icmpSameSpec.pre6 enc Try.prog Try.f8 Rows.icmpSameRow.domain false) (Rows.icmpSameSpec.post enc Try.prog Try.f8 false true false false) := by
  refine returnsInHanded_of_change_sized (C := Try.checked) own started (by kernel_rfl) Try.func8
    (ChangeSpec.witness6 (enc := enc) (C := Try.checked) false ⟨#[], #[.int .i64 0, .int .i64 0, .string ByteArray.empty], []⟩ 8 (by kernel_rfl) (by kernel_rfl) (by kernel_rfl) (by kernel_rfl)) ?_
  intro W base args ds gs before hval0 hW hcnd hsz0 _
  have hsz : (DataW.weightsEach Try.prog (Try.f8.params.toList ++ Rows.icmpSameSpec.plain.varTypes Try.prog) (ds ++ gs)).all (· ≤ reachBytes) = true := hsz0
  have hval : ∀ (j : Nat) t v, Try.f8.params[j]? = some t → args[j]? = some v → Value.okWide Try.prog W .any base t v := hval0
  have hW' := hW
  obtain ⟨p, q, hA0, hV, rfl, hfz, hnd⟩ := hW
  have hA : DataW.TrodAll enc Try.prog W 0 (fun _ => true) true Try.f8.params.toList args.toList ds p := hA0
  rw [Try.params8] at hA hval hsz
  obtain ⟨v0, vs0, d0, ds0, p0, q0, hargs, rfl, rfl, h0, r0⟩ := trodAll_cons hA
  obtain ⟨v1, vs1, d1, ds1, p1, q1, rfl, rfl, rfl, h1, r1⟩ := trodAll_cons r0
  obtain ⟨v2, vs2, d2, ds2, p2, q2, rfl, rfl, rfl, h2, r2⟩ := trodAll_cons r1
  obtain ⟨rfl, rfl, rfl⟩ := trodAll_nil r2
  obtain rfl : args = #[v0, v1, v2] := by cases args; simp_all
  obtain ⟨rfl, rfl⟩ := trodVars_none hV
  have k0 := h0
  have lt0 : ∀ x ∈ p0, x.block < W.heap.size := by obtain ⟨m, hm⟩ := k0; exact DataW.trod_lt m _ _ _ hm
  have k1 := h1
  have lt1 : ∀ x ∈ p1, x.block < W.heap.size := by obtain ⟨m, hm⟩ := k1; exact DataW.trod_lt m _ _ _ hm
  have k2 := h2
  have lt2 : ∀ x ∈ p2, x.block < W.heap.size := by obtain ⟨m, hm⟩ := k2; exact DataW.trod_lt m _ _ _ hm
  obtain ⟨a0, rfl, -, -, w0⟩ := open_int Try.underlying3 (hval 0 3 v0 rfl rfl) h0
  obtain ⟨a1, rfl, -, -, w1⟩ := open_int Try.underlying3 (hval 1 3 v1 rfl rfl) h1
  obtain ⟨a2, rfl, e2, -, w2⟩ := open_string Try.underlying9 (hval 2 9 v2 rfl rfl) h2
  have z2 : a2.size ≤ 140737488351232 := by
    have := sized_string hsz (j := 2) (t := 9) rfl (by rw [e2]; rfl)
    simp only [reachBytes] at this
    simpa using this
  clear hA0 hval0
  refine (walk a0 w0 a1 w1 a2 w2 z2 W ).mono fun e W' ⟨he, bel⟩ => ?_
  subst he
  exact ⟨_, rfl, _, _, _, [], _, [], hW', trodAll_mk1 (shut_bool Try.underlying4 _), (trodAll_cons_mk (Below.trod laidOut (by kernel_rfl) (of_decide_eq_true (by kernel_rfl)) k0 bel lt0) (trodAll_cons_mk (Below.trod laidOut (by kernel_rfl) (of_decide_eq_true (by kernel_rfl)) k1 bel lt1) (trodAll_cons_mk (Below.trod laidOut (by kernel_rfl) (of_decide_eq_true (by kernel_rfl)) k2 bel lt2) trodAll_mk0))), rfl, bel.frame _, fun h => by cases h⟩

theorem over : Rows.icmpSameRow.holds Try.pinned (OpenSpec.ofChange Rows.icmpSameSpec) :=
  OpenClaim.holds_of_wide 8 Try.f8 rfl rfl rfl rfl rfl rfl rfl ⟨rfl, rfl, rfl, rfl, rfl⟩ rfl rfl rfl rfl rfl (by kernel_rfl) Try.func8 (by kernel_rfl)
    (of_decide_eq_true (by kernel_rfl)) (by unfold Func.isWrapper; first | (rw [if_pos (by decide +kernel)]; kernel_rfl) | (rw [if_neg (by decide +kernel)]; exact ⟨rfl, rfl⟩))
    (fun os started H enc _ => lifted os started H enc)

end Go.Proofs.Ytbbeepkcejiafaa.icmpSame
namespace Go.Proofs.Ytbbeepkcejiafaa
theorem icmpSame_holds : Rows.IcmpSameSaid := icmpSame.over
end Go.Proofs.Ytbbeepkcejiafaa
