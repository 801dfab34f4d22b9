/- For all two addresses and bytes: Decode answers as the document's; and what came in reads as it did. Conditions: the card's own alone (the order of the kinds is what the program's text lays). -/
import Derived.Test.YtecoknenkjgmjabDoorSf
import Derived.Test.YtecoknenkjgmjabDoorTj
import Derived.Test.YtecoknenkjgmjabDoorSh
import Derived.Deep.Cut
import Derived.Deep.QuietTactic
import Derived.BigQuiet
import Derived.WalkSmall
import Derived.Test.YtecoknenkjgmjabDoorFs
import Derived.Test.YtecoknenkjgmjabDoorFt
import Derived.Test.YtecoknenkjgmjabDoorTie
import Derived.Test.YtecoknenkjgmjabDoorCards
import Derived.SevenTiedAt
import Derived.Stop.Joined
namespace Go.Proofs.YtecoknenkjgmjabDoor.segReads
open Go.ChangeShapes Go.WideShapes Go.ChangeAt Go.RowKit
open Go.ChangeMaps (open_string)
set_option linter.unusedVariables false
set_option maxRecDepth 100000

-- WALK
def gotE (r : Except Int Sg) : Sg := match r with
  | .error _ => ⟨0, 0, 0, 0, 0, 0, 0, Op.zero, ⟨#[]⟩⟩
  | .ok s => s
def codE (r : Except Int Sg) : Int := match r with
  | .error c => c
  | .ok _ => 0
theorem decS_un {r : Except Int Sg} {w : World} {e : Ending} {w' : World} (h : DecS r w e w') : ∃ v, e = .returned (.tuple #[.agg #[.int .i64 (gotE r).fr, .int .i64 (gotE r).dt, .int .i64 (gotE r).sq, .int .i64 (gotE r).ak, .int .i64 (gotE r).fl, .int .i64 (gotE r).wi, .int .i64 (gotE r).ur, .int .i64 (gotE r).o.m, .int .i64 (gotE r).o.c, .int .i64 (gotE r).o.t, .int .i64 (gotE r).o.ec, .bool (gotE r).o.sd, .bool (gotE r).o.ok, .bool (gotE r).o.sp, v, .string (gotE r).da], .int .i64 (codE r)]) ∧ Rgs w' v (gotE r).o.rs ∧ Below w.heap.size w w' := by
  cases r with
  | error c => exact ⟨.slice none 0 0, h.1, Rgs.nil _, h.2⟩
  | ok s =>
    obtain ⟨v, h1, h2, h3⟩ := h
    exact ⟨v, h1, h2.rgs, h3⟩
set_option maxHeartbeats 4000000 in
theorem walk_k (f t : Int) (b : ByteArray) (s : Sg) (c : Int) (w : World) (hG : Ord w) (hn : s.o.rs.length ≤ 17592186044416)
    (HD : Hid (∀ W, Ord W → Calls Tryd.prog 18 #[.int .i64 f, .int .i64 t, .string b] W fun e w' => ∃ v, e = .returned (.tuple #[.agg #[.int .i64 s.fr, .int .i64 s.dt, .int .i64 s.sq, .int .i64 s.ak, .int .i64 s.fl, .int .i64 s.wi, .int .i64 s.ur, .int .i64 s.o.m, .int .i64 s.o.c, .int .i64 s.o.t, .int .i64 s.o.ec, .bool s.o.sd, .bool s.o.ok, .bool s.o.sp, v, .string s.da], .int .i64 c]) ∧ Rgs w' v s.o.rs ∧ Below W.heap.size W w'))
    (HR : Hid (∀ W, Calls Tryd.prog 19 #[.int .i64 f, .int .i64 t, .string b] W fun e w' => ∃ v, e = .returned (.tuple #[.agg #[.int .i64 s.fr, .int .i64 s.dt, .int .i64 s.sq, .int .i64 s.ak, .int .i64 s.fl, .int .i64 s.wi, .int .i64 s.ur, .int .i64 s.o.m, .int .i64 s.o.c, .int .i64 s.o.t, .int .i64 s.o.ec, .bool s.o.sd, .bool s.o.ok, .bool s.o.sp, v, .string s.da], .int .i64 c]) ∧ Rgs w' v s.o.rs ∧ Below W.heap.size W w'))
    (HS : Hid (∀ W v u, Rgs W v s.o.rs → Rgs W u s.o.rs → Calls Tryd.prog 20 #[.agg #[.int .i64 s.fr, .int .i64 s.dt, .int .i64 s.sq, .int .i64 s.ak, .int .i64 s.fl, .int .i64 s.wi, .int .i64 s.ur, .int .i64 s.o.m, .int .i64 s.o.c, .int .i64 s.o.t, .int .i64 s.o.ec, .bool s.o.sd, .bool s.o.ok, .bool s.o.sp, v, .string s.da], .agg #[.int .i64 s.fr, .int .i64 s.dt, .int .i64 s.sq, .int .i64 s.ak, .int .i64 s.fl, .int .i64 s.wi, .int .i64 s.ur, .int .i64 s.o.m, .int .i64 s.o.c, .int .i64 s.o.t, .int .i64 s.o.ec, .bool s.o.sd, .bool s.o.ok, .bool s.o.sp, u, .string s.da]] W fun e w' => e = .returned (.bool true) ∧ Below W.heap.size W w')) :
    Calls Tryd.prog 4 #[.agg #[.int .i64 f, .int .i64 t], .string b] w fun e w' => e = .returned (.bool true) ∧ Below w.heap.size w w' := by
  have hA := At.box w #[.int .i64 f, .int .i64 t] 23
  have hl := bel1 w (.cells #[.int .i64 f, .int .i64 t] 23)
  go_enter Tryd.func4, Tryd.ntmps4
  go_upto_region 1 with fail
  generalize hw0 : w.alloc (.cells #[.int .i64 f, .int .i64 t] 23) = w0 at *
  clear hw0
  have c0 := (hA.2 0 _ rfl).1
  have c1 := (hA.2 1 _ rfl).1
  go_wp2_with fail
  refine (HD.out _ (hG.later hl)).mono ?_
  rintro e w2 ⟨v, rfl, hv, hb⟩
  obtain ⟨a1, cap1, hve, -⟩ := id hv
  subst hve
  have hbx := bel1 w2 (.cells #[.int .i64 s.fr, .int .i64 s.dt, .int .i64 s.sq, .int .i64 s.ak, .int .i64 s.fl, .int .i64 s.wi, .int .i64 s.ur, .int .i64 s.o.m, .int .i64 s.o.c, .int .i64 s.o.t, .int .i64 s.o.ec, .bool s.o.sd, .bool s.o.ok, .bool s.o.sp, (.slice a1 s.o.rs.length cap1), .string s.da] 28)
  have hX := At.box w2 #[.int .i64 s.fr, .int .i64 s.dt, .int .i64 s.sq, .int .i64 s.ak, .int .i64 s.fl, .int .i64 s.wi, .int .i64 s.ur, .int .i64 s.o.m, .int .i64 s.o.c, .int .i64 s.o.t, .int .i64 s.o.ec, .bool s.o.sd, .bool s.o.ok, .bool s.o.sp, (.slice a1 s.o.rs.length cap1), .string s.da] 28
  replace hl := bt (bt hl hb) hbx
  replace hA := hA.later (bt hb hbx)
  replace hv := hv.later hbx
  clear hb HD c0 c1
  go_upto_region 2 with fail
  obtain ⟨B5, hB5⟩ : ∃ B, B = w2.heap.size := ⟨_, rfl⟩
  rw [← hB5] at hX ⊢
  generalize w2.alloc (.cells #[.int .i64 s.fr, .int .i64 s.dt, .int .i64 s.sq, .int .i64 s.ak, .int .i64 s.fl, .int .i64 s.wi, .int .i64 s.ur, .int .i64 s.o.m, .int .i64 s.o.c, .int .i64 s.o.t, .int .i64 s.o.ec, .bool s.o.sd, .bool s.o.ok, .bool s.o.sp, (.slice a1 s.o.rs.length cap1), .string s.da] 28) = w3 at *
  clear hbx hB5
  have c0 := (hA.2 0 _ rfl).1
  have c1 := (hA.2 1 _ rfl).1
  go_wp2_with fail
  refine (HR.out _).mono ?_
  rintro e w4 ⟨u, rfl, hu, hb⟩
  obtain ⟨a2, cap2, hue, -⟩ := id hu
  subst hue
  have hbx := bel1 w4 (.cells #[.int .i64 s.fr, .int .i64 s.dt, .int .i64 s.sq, .int .i64 s.ak, .int .i64 s.fl, .int .i64 s.wi, .int .i64 s.ur, .int .i64 s.o.m, .int .i64 s.o.c, .int .i64 s.o.t, .int .i64 s.o.ec, .bool s.o.sd, .bool s.o.ok, .bool s.o.sp, (.slice a2 s.o.rs.length cap2), .string s.da] 28)
  have hY := At.box w4 #[.int .i64 s.fr, .int .i64 s.dt, .int .i64 s.sq, .int .i64 s.ak, .int .i64 s.fl, .int .i64 s.wi, .int .i64 s.ur, .int .i64 s.o.m, .int .i64 s.o.c, .int .i64 s.o.t, .int .i64 s.o.ec, .bool s.o.sd, .bool s.o.ok, .bool s.o.sp, (.slice a2 s.o.rs.length cap2), .string s.da] 28
  replace hl := bt (bt hl hb) hbx
  replace hX := hX.later (bt hb hbx)
  replace hv := hv.later (bt hb hbx)
  replace hu := hu.later hbx
  clear hb HR c0 c1 hA
  go_upto_region 3 with fail
  obtain ⟨B7, hB7⟩ : ∃ B, B = w4.heap.size := ⟨_, rfl⟩
  rw [← hB7] at hY ⊢
  generalize w4.alloc (.cells #[.int .i64 s.fr, .int .i64 s.dt, .int .i64 s.sq, .int .i64 s.ak, .int .i64 s.fl, .int .i64 s.wi, .int .i64 s.ur, .int .i64 s.o.m, .int .i64 s.o.c, .int .i64 s.o.t, .int .i64 s.o.ec, .bool s.o.sd, .bool s.o.ok, .bool s.o.sp, (.slice a2 s.o.rs.length cap2), .string s.da] 28) = w5 at *
  clear hbx hB7
  go_wp2_with (first | (refine wpList_loadG 28 _ (by rfl) (by rfl) (B5) 0 (by rfl) _ _ hX.range Tryd.underlying28 rfl size28 ?_) | (refine wpList_loadG 28 _ (by rfl) (by rfl) (B7) 0 (by rfl) _ _ hY.range Tryd.underlying28 rfl size28 ?_))
  refine (HS.out _ _ _ hv hu).mono ?_
  rintro e w6 ⟨rfl, hb⟩
  replace hl := bt hl hb
  clear hb HS hX hY
  go_wp2_with fail
  refine (works_s _ (hG.later hl)).mono ?_
  rintro e w7 ⟨rfl, hb⟩
  go_wp2
  go_ret
  exact ⟨rfl, bt hl hb⟩
theorem walk (f t : Int) (b : ByteArray) (w : World) (hG : Ord w) (h0 : (Lit.int .i64 f).wf = true) (h1 : (Lit.int .i64 t).wf = true) (hz : b.size ≤ 140737488351232) :
    Calls Tryd.prog 4 #[.agg #[.int .i64 f, .int .i64 t], .string b] w fun e w' => e = .returned (.bool true) ∧ Below w.heap.size w w' := by
  have hn : (gotE (decG f t b)).o.rs.length ≤ 17592186044416 := by
    cases hr : decG f t b with
    | error c => exact Nat.zero_le _
    | ok s =>
      obtain ⟨-, -, -, -, -, -, -, ho, -⟩ := may_all (decG_may hr)
      have := mayO_short ho
      show s.o.rs.length ≤ _
      omega
  refine walk_k f t b (gotE (decG f t b)) (codE (decG f t b)) w hG hn (fun W hW => (decs_any f t b W hW hz).mono fun e w' h => decS_un h) (fun W => (rdecs_any f t b W hz).mono fun e w' h => decS_un h) (fun W v u hv hu => ?_)
  have := rsame_s (gotE (decG f t b)) (gotE (decG f t b)) v u W hv hu hn hn
  rw [sameG_refl] at this
  exact this

theorem lifted (os : Os) (started : os.Started) (H : Type) (enc : TypeId × Value → H) :
    ReturnsInHanded {} Tryd.checked os 4 .any (fun w args => (Rows.segReadsSpec.pre enc Tryd.prog Tryd.f4 [] false w args ∧ laidMetH Tryd.prog laidL w) ∧ sizedMet enc Tryd.prog Tryd.f4 (OpenSpec.ofChange Rows.segReadsSpec) false w args)
      (Rows.segReadsSpec.post enc Tryd.prog Tryd.f4 false true false false) := by
  refine returnsInHanded_of_change_and (C := Tryd.checked) (X := fun w _ => laidMetH Tryd.prog laidL w) (fun _ _ _ hh h => h.of_heap hh) ownK started (by kernel_rfl) Tryd.func4
    (ChangeSpec.witness_shaped (enc := enc) (C := Tryd.checked) (os := os) (X := fun w _ => laidMetH Tryd.prog laidL w) false (World.doorLaid Tryd.prog 400 os) #[.agg #[.int .i64 0, .int .i64 0], .string ByteArray.empty] 8 rfl (World.shaped_of_RefB (by kernel_rfl) (by kernel_rfl)) (by kernel_rfl) (by kernel_rfl) (by kernel_rfl) (door_met os _)) ?_
  intro W base args ds gs before hval0 hW hcnd hsz0 hL _
  have hG := ord_of hL
  have hsz : (DataW.weightsEach Tryd.prog (Tryd.f4.params.toList ++ Rows.segReadsSpec.plain.varTypes Tryd.prog) (ds ++ gs)).all (· ≤ reachBytes) = true := hsz0
  have hval : ∀ (j : Nat) t v, Tryd.f4.params[j]? = some t → args[j]? = some v → Value.okWide Tryd.prog W .any base t v := hval0
  have hW' := hW
  obtain ⟨p, q, hA0, hV, rfl, hfz, hnd⟩ := hW
  have hA : DataW.TrodAll enc Tryd.prog W 0 (fun _ => true) true Tryd.f4.params.toList args.toList ds p := hA0
  rw [Tryd.params4] at hA hval hsz
  obtain ⟨v0, vs0, d0, ds0, p0, q0, hargs, rfl, rfl, h0, r0⟩ := trodAll_cons hA
  obtain ⟨v1, vs1, d1, ds1, p1, q1, rfl, rfl, rfl, h1, r1⟩ := trodAll_cons r0
  obtain ⟨rfl, rfl, rfl⟩ := trodAll_nil r1
  obtain rfl : args = #[v0, v1] := by cases args; simp_all
  obtain ⟨rfl, rfl⟩ := trodVars_none hV
  have k0 := h0
  have lt0 : ∀ x ∈ p0, x.block < W.heap.size := by obtain ⟨m, hm⟩ := k0; exact DataW.trod_lt m _ _ _ hm
  have k1 := h1
  have lt1 : ∀ x ∈ p1, x.block < W.heap.size := by obtain ⟨m, hm⟩ := k1; exact DataW.trod_lt m _ _ _ hm
  obtain ⟨f0, g0, rfl, e0, c0⟩ := open23 (hval 0 23 v0 rfl rfl) h0
  obtain ⟨a1, rfl, e1, -, w1⟩ := open_string Tryd.underlying9 (hval 1 9 v1 rfl rfl) h1
  have z1 : a1.size ≤ 140737488351232 := by
    have := sized_string hsz (j := 1) (t := 9) rfl (by rw [e1]; rfl)
    simp only [reachBytes] at this
    simpa using this
  clear hA0 hval0
  refine (walk f0 g0 a1 W hG e0 c0 z1).mono fun e W' ⟨he, bel⟩ => ?_
  subst he
  exact ⟨_, rfl, _, _, _, [], _, [], hW', trodAll_mk1 (shut_bool Tryd.underlying4 _), (trodAll_cons_mk (Below.trod laidOutK (by kernel_rfl) (of_decide_eq_true (by kernel_rfl)) k0 bel lt0) (trodAll_cons_mk (Below.trod laidOutK (by kernel_rfl) (of_decide_eq_true (by kernel_rfl)) k1 bel lt1) trodAll_mk0)), rfl, bel.frame _, fun h => by cases h⟩

theorem over : Rows.segReadsRow.holds Tryd.pinned (OpenSpec.ofChange Rows.segReadsSpec) :=
  OpenClaim.holds_of_wide 4 Tryd.f4 rfl rfl rfl rfl rfl rfl rfl ⟨rfl, rfl, rfl, rfl, rfl⟩ rfl rfl rfl rfl rfl (by kernel_rfl) Tryd.func4 (by kernel_rfl)
    (of_decide_eq_true (by kernel_rfl)) (by unfold Func.isWrapper; first | (rw [if_pos (by decide +kernel)]; kernel_rfl) | (rw [if_neg (by decide +kernel)]; exact ⟨rfl, rfl⟩))
    (fun os started H enc _ => lifted os started H enc)

end Go.Proofs.YtecoknenkjgmjabDoor.segReads
namespace Go.Proofs.YtecoknenkjgmjabDoor
open Go
theorem segReads_card_holds : Rows.SegReadsCardSaid :=
  Claim7.holds_tied_plain_at .later [] [.data] true (true, "7a383cbcafb2e437da8d427f08dd0d5acda387abc0a856b5ba63ec94711a83ec") false
    segReads.over (fun _ h => by cases h) (by kernel_rfl) (fun _ h => by cases h) segReads_row_tie rfl ⟨rfl, rfl⟩ (by kernel_rfl) rfl
    (fun f fn hf hfn => by
      obtain rfl : f = 4 := Option.some.inj ((show Tryd.prog.funcNamed "sternpost/sternpostlaw08.SegReads" = some 4 by kernel_rfl).symm.trans hf) |>.symm
      obtain rfl : fn = Tryd.f4 := (Option.some.inj (Tryd.func4.symm.trans hfn)).symm
      exact ⟨by kernel_rfl, fun j t ht => by
        rw [Tryd.params4] at ht
        have hm : t ∈ [23, 9] := by simpa using Array.mem_of_getElem? ht
        have hall : ([23, 9].all fun u => !Tryd.prog.wantsStandIn u) = true := by kernel_rfl
        exact (show Tryd.prog.wantsStandIn t = false by simpa using List.all_eq_true.1 hall t hm)⟩)
    (by kernel_rfl)
end Go.Proofs.YtecoknenkjgmjabDoor
