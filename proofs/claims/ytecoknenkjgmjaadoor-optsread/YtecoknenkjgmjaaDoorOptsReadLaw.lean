/- For all bytes: what they are as options, or that they are none, is as the document has it; the chapter's example comes out; and what came in reads as it did. Conditions: the card's own alone (the order of the kinds is what the program's text lays). -/
import Derived.Test.YtecoknenkjgmjaaDoorRf
import Derived.Test.YtecoknenkjgmjaaDoorOh
import Derived.Test.YtecoknenkjgmjaaDoorPc
import Derived.Deep.AppendLies
import Derived.Deep.QuietTactic
import Derived.BigQuiet
import Derived.WalkSmall
import Derived.Test.YtecoknenkjgmjaaDoorFr
import Derived.Test.YtecoknenkjgmjaaDoorTie
import Derived.Test.YtecoknenkjgmjaaDoorCards
import Derived.SevenTiedAt
import Derived.Stop.Joined
namespace Go.Proofs.YtecoknenkjgmjaaDoor.optsRead
open Go.ChangeShapes Go.WideShapes Go.ChangeAt Go.RowKit
open Go.ChangeMaps (open_string)
set_option linter.unusedVariables false

-- WALK
/-- What both Decodes answer: options with a row, and a code. -/
def gotC (l : List UInt8) : Int := if (decO l).isSome = true then 0 else 70
theorem dec_both {F : Nat} {s : ByteArray} {w : World} (h : Calls Tryd.prog F #[.string s] w fun en w' => DecPost (decO s.data.toList) w en w') : Calls Tryd.prog F #[.string s] w fun en w' => ∃ v, en = .returned (.tuple #[.agg #[.int .i64 (gotO s.data.toList).m, .int .i64 (gotO s.data.toList).c, .int .i64 (gotO s.data.toList).t, .int .i64 (gotO s.data.toList).ec, .bool (gotO s.data.toList).sd, .bool (gotO s.data.toList).ok, .bool (gotO s.data.toList).sp, v], .int .i64 (gotC s.data.toList)]) ∧ Rgs w' v (gotO s.data.toList).rs ∧ Below w.heap.size w w' := by
  refine h.mono ?_
  unfold DecPost gotO gotC
  cases decO s.data.toList with
  | none =>
    rintro e w' ⟨rfl, hb⟩
    exact ⟨_, rfl, Rgs.nil _, hb⟩
  | some o =>
    rintro e w' ⟨v, rfl, ho, hb⟩
    exact ⟨v, rfl, Rgs.of_own ho, hb⟩
set_option maxRecDepth 100000 in
set_option maxHeartbeats 4000000 in
theorem walk (s : ByteArray) (w : World) (hG : Ord w) (hz : s.size ≤ 140737488351232) :
    Calls Tryd.prog 4 #[.string s] w fun e w' => e = .returned (.bool true) ∧ Below w.heap.size w w' := by
  have HD1 : Hid (∀ W, Ord W → Calls Tryd.prog 20 #[.string s] W fun en w' => ∃ v, en = .returned (.tuple #[.agg #[.int .i64 (gotO s.data.toList).m, .int .i64 (gotO s.data.toList).c, .int .i64 (gotO s.data.toList).t, .int .i64 (gotO s.data.toList).ec, .bool (gotO s.data.toList).sd, .bool (gotO s.data.toList).ok, .bool (gotO s.data.toList).sp, v], .int .i64 (gotC s.data.toList)]) ∧ Rgs w' v (gotO s.data.toList).rs ∧ Below W.heap.size W w') := fun W h => dec_both (dec_any s W h (by omega))
  have HD2 : Hid (∀ W, Calls Tryd.prog 21 #[.string s] W fun en w' => ∃ v, en = .returned (.tuple #[.agg #[.int .i64 (gotO s.data.toList).m, .int .i64 (gotO s.data.toList).c, .int .i64 (gotO s.data.toList).t, .int .i64 (gotO s.data.toList).ec, .bool (gotO s.data.toList).sd, .bool (gotO s.data.toList).ok, .bool (gotO s.data.toList).sp, v], .int .i64 (gotC s.data.toList)]) ∧ Rgs w' v (gotO s.data.toList).rs ∧ Below W.heap.size W w') := fun W => dec_both (rdec_any s W (by omega))
  have HSH : Hid ((gotO s.data.toList).rs.length ≤ 4) := gotO_short _
  generalize gotO s.data.toList = X at *
  generalize gotC s.data.toList = cc at *
  go_enter Tryd.func4, Tryd.ntmps4
  go_wp2_with fail
  refine (HD1.out _ hG).mono ?_
  rintro en w1 ⟨v1, rfl, hr1, hl⟩
  obtain ⟨a1, cap1, hv1, -⟩ := id hr1
  subst hv1
  have hbx := bel1 w1 (.cells #[.int .i64 X.m, .int .i64 X.c, .int .i64 X.t, .int .i64 X.ec, .bool X.sd, .bool X.ok, .bool X.sp, (.slice a1 X.rs.length cap1)] 24)
  have hA := At.box w1 #[.int .i64 X.m, .int .i64 X.c, .int .i64 X.t, .int .i64 X.ec, .bool X.sd, .bool X.ok, .bool X.sp, (.slice a1 X.rs.length cap1)] 24
  replace hr1 := hr1.later hbx
  replace hl := bt hl hbx
  clear hbx
  obtain ⟨⟨c0, c1, c2, c3, c4, c5, c6, c7⟩, -, -⟩ := hA.eight
  go_wp2_with fail
  refine (HD2.out _).mono ?_
  rintro en w2 ⟨v2, rfl, hr2, hb⟩
  obtain ⟨a2, cap2, hv2, -⟩ := id hr2
  subst hv2
  have hbx := bel1 w2 (.cells #[.int .i64 X.m, .int .i64 X.c, .int .i64 X.t, .int .i64 X.ec, .bool X.sd, .bool X.ok, .bool X.sp, (.slice a2 X.rs.length cap2)] 24)
  have hB := At.box w2 #[.int .i64 X.m, .int .i64 X.c, .int .i64 X.t, .int .i64 X.ec, .bool X.sd, .bool X.ok, .bool X.sp, (.slice a2 X.rs.length cap2)] 24
  replace hr1 := (hr1.later hb).later hbx
  replace hr2 := hr2.later hbx
  replace hl := bt (bt hl hb) hbx
  replace hA := (hA.later hb).later hbx
  clear c0 c1 c2 c3 c4 c5 c6 c7 hb hbx
  obtain ⟨⟨c0, c1, c2, c3, c4, c5, c6, c7⟩, -, -⟩ := hA.eight
  obtain ⟨⟨d0, d1, d2, d3, d4, d5, d6, d7⟩, -, -⟩ := hB.eight
  have hn : X.rs.length ≤ 17592186044416 := by have := HSH.out; omega
  have hsm := rsame_any X.m X.c X.t X.ec X.sd X.ok X.sp (.slice a1 X.rs.length cap1) X.rs X.m X.c X.t X.ec X.sd X.ok X.sp (.slice a2 X.rs.length cap2) X.rs _ hr1 hr2 hn hn
  rw [sameO_self] at hsm
  have hG2 := hG.later hl
  go_wp2_with fail
  refine hsm.mono ?_
  rintro en w3 ⟨rfl, hb3⟩
  clear c0 c1 c2 c3 c4 c5 c6 c7 d0 d1 d2 d3 d4 d5 d6 d7
  go_wp2_with fail
  refine (works_any _ (hG2.later hb3)).mono ?_
  rintro en w4 ⟨rfl, hb4⟩
  go_wp2
  go_ret
  exact ⟨rfl, bt (bt hl hb3) hb4⟩

set_option maxRecDepth 100000 in
theorem lifted (os : Os) (started : os.Started) (H : Type) (enc : TypeId × Value → H) :
    ReturnsInHanded {} Tryd.checked os 4 .any (fun w args => (Rows.optsReadSpec.pre enc Tryd.prog Tryd.f4 [] false w args ∧ laidMetH Tryd.prog laidL w) ∧ sizedMet enc Tryd.prog Tryd.f4 (OpenSpec.ofChange Rows.optsReadSpec) false w args)
      (Rows.optsReadSpec.post enc Tryd.prog Tryd.f4 false true false false) := by
  refine returnsInHanded_of_change_and (C := Tryd.checked) (X := fun w _ => laidMetH Tryd.prog laidL w) (fun _ _ _ hh h => h.of_heap hh) ownK started (by kernel_rfl) Tryd.func4
    (ChangeSpec.witness_shaped (enc := enc) (C := Tryd.checked) (os := os) (X := fun w _ => laidMetH Tryd.prog laidL w) false (World.doorLaid Tryd.prog 400 os) #[.string ByteArray.empty] 8 rfl (World.shaped_of_RefB (by kernel_rfl) (by kernel_rfl)) (by kernel_rfl) (by kernel_rfl) (by kernel_rfl) (door_met os _)) ?_
  intro W base args ds gs before hval0 hW hcnd hsz0 hL _
  have hG := ord_of hL
  have hsz : (DataW.weightsEach Tryd.prog (Tryd.f4.params.toList ++ Rows.optsReadSpec.plain.varTypes Tryd.prog) (ds ++ gs)).all (· ≤ reachBytes) = true := hsz0
  have hval : ∀ (j : Nat) t v, Tryd.f4.params[j]? = some t → args[j]? = some v → Value.okWide Tryd.prog W .any base t v := hval0
  have hW' := hW
  obtain ⟨p, q, hA0, hV, rfl, hfz, hnd⟩ := hW
  have hA : DataW.TrodAll enc Tryd.prog W 0 (fun _ => true) true Tryd.f4.params.toList args.toList ds p := hA0
  rw [Tryd.params4] at hA hval hsz
  obtain ⟨v0, vs0, d0, ds0, p0, q0, hargs, rfl, rfl, h0, r0⟩ := trodAll_cons hA
  obtain ⟨rfl, rfl, rfl⟩ := trodAll_nil r0
  obtain rfl : args = #[v0] := by cases args; simp_all
  obtain ⟨rfl, rfl⟩ := trodVars_none hV
  have k0 := h0
  have lt0 : ∀ x ∈ p0, x.block < W.heap.size := by obtain ⟨m, hm⟩ := k0; exact DataW.trod_lt m _ _ _ hm
  obtain ⟨a0, rfl, e0, -, w0⟩ := open_string Tryd.underlying9 (hval 0 9 v0 rfl rfl) h0
  have z0 : a0.size ≤ 140737488351232 := by
    have := sized_string hsz (j := 0) (t := 9) rfl (by rw [e0]; rfl)
    simp only [reachBytes] at this
    simpa using this
  clear hA0 hval0
  refine (walk a0 W hG z0).mono fun e W' ⟨he, bel⟩ => ?_
  subst he
  exact ⟨_, rfl, _, _, _, [], _, [], hW', trodAll_mk1 (shut_bool Tryd.underlying4 _), (trodAll_cons_mk (Below.trod laidOutK (by kernel_rfl) (of_decide_eq_true (by kernel_rfl)) k0 bel lt0) trodAll_mk0), rfl, bel.frame _, fun h => by cases h⟩

theorem over : Rows.optsReadRow.holds Tryd.pinned (OpenSpec.ofChange Rows.optsReadSpec) :=
  OpenClaim.holds_of_wide 4 Tryd.f4 rfl rfl rfl rfl rfl rfl rfl ⟨rfl, rfl, rfl, rfl, rfl⟩ rfl rfl rfl rfl rfl (by kernel_rfl) Tryd.func4 (by kernel_rfl)
    (of_decide_eq_true (by kernel_rfl)) (by unfold Func.isWrapper; first | (rw [if_pos (by decide +kernel)]; kernel_rfl) | (rw [if_neg (by decide +kernel)]; exact ⟨rfl, rfl⟩))
    (fun os started H enc _ => lifted os started H enc)

end Go.Proofs.YtecoknenkjgmjaaDoor.optsRead
namespace Go.Proofs.YtecoknenkjgmjaaDoor
open Go
theorem optsRead_card_holds : Rows.OptsReadCardSaid :=
  Claim7.holds_tied_plain_at .later [] [.data] true (true, "b329e8443bf405fc7ec9c7f296bf5b15ced440c224d2249f857770d22ce70a43") false
    optsRead.over (fun _ h => by cases h) (by kernel_rfl) (fun _ h => by cases h) optsRead_row_tie rfl ⟨rfl, rfl⟩ (by kernel_rfl) rfl
    (fun f fn hf hfn => by
      obtain rfl : f = 4 := Option.some.inj ((show Tryd.prog.funcNamed "sternpost/sternpostlaw07.OptsRead" = some 4 by kernel_rfl).symm.trans hf) |>.symm
      obtain rfl : fn = Tryd.f4 := (Option.some.inj (Tryd.func4.symm.trans hfn)).symm
      exact ⟨by kernel_rfl, fun j t ht => by
        rw [Tryd.params4] at ht
        have hm : t ∈ [9] := by simpa using Array.mem_of_getElem? ht
        have hall : ([9].all fun u => !Tryd.prog.wantsStandIn u) = true := by kernel_rfl
        exact (show Tryd.prog.wantsStandIn t = false by simpa using List.all_eq_true.1 hall t hm)⟩)
    (by kernel_rfl)
end Go.Proofs.YtecoknenkjgmjaaDoor
