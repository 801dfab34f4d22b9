/- What a packet is cut into is gathered again, in the order given, to what it was. The card is tied: the two package-level variables are what the program's text lays; no condition of our own. -/
import Derived.Test.YthjbmloemmggaaaGreatDoorCards
import Derived.Test.YthjbmloemmggaaaGreatDoorProg
import Derived.Test.YthjbmloemmggaaaGreatDoorRows
import Derived.Test.YthjbmloemmggaaaGreatDoorTie
import Derived.ChangeSlices
import Derived.WalkSmall
import Derived.SevenTiedAt
import Derived.Stop.Joined
import Derived.WalkKit
import Derived.WalkSpells
import Derived.Deep.RegionHeld3
import Derived.Deep.QuietTactic
import Derived.BigQuiet
import Derived.RegionTactic
import Derived.Below
import Derived.Laws.Tables
import Derived.Great.BuildSlice
import Derived.ProofKit
import Derived.OpenShut
import Derived.ShutString
import Derived.ChangeOld
import Derived.Carry
import Derived.SizedLaws
import Derived.Deep.Fields
import Derived.Deep.SlicePairs
import Derived.LaidMore
import Derived.Lib.LaidTab
import Derived.LaidLaws
import Derived.LaidHandle
import Derived.Deep.RegionWith
import Derived.Maps.RangeWalk
import Derived.Maps.OwnSet
import Derived.Maps.Ext
import Derived.Deep.Cut
import Derived.Deep.CutRange
import Derived.Deep.MidRow
import Derived.OwnWalk
import Derived.Maps.Keyed
import Derived.DeepKeys4
import Derived.Laws.CopyRow
import Derived.Shelf.Spec.SlicesInsert
import Derived.Lib.AppendZerosOnto
import Derived.Maps.AppendAt
import Derived.Lib.Overlaps
import Derived.Shelf.Strings.BuilderK
import Derived.Laws.OwnMore
import Derived.Laws.AppendOwnNone
import Derived.Lib.SliceRun
import Derived.Laws.AppendOwn
import Derived.Deep.LoopGhost
import Derived.Lib.Repeat
import Derived.Laws.StructEq
import Derived.BigRegion
import Derived.Deep.Light
import Derived.LoopN
import Derived.LaidEql
import Derived.Stop.Asserts
import Derived.RowKitTokens
import Derived.Recover
import Derived.RangeFuncBox
import Derived.OwnWalkIn
import Derived.TacticsInMore
import Derived.LoopNIn
import Derived.LoopIn
import Derived.Shelf.RegionOpen
import Derived.OrdersIn
import Derived.RangeFuncCalls
import Derived.RangeFuncNested
import Derived.RangeFuncLeaves
import Derived.Shelf.Abstract
import Derived.Test.YthjbmloemmggaaaGreatDoorMA01
import Derived.Test.YthjbmloemmggaaaGreatDoorMA02
import Derived.Test.YthjbmloemmggaaaGreatDoorMA03
import Derived.Test.YthjbmloemmggaaaGreatDoorMA04
import Derived.Test.YthjbmloemmggaaaGreatDoorMA05
import Derived.Test.YthjbmloemmggaaaGreatDoorMA06
import Derived.Test.YthjbmloemmggaaaGreatDoorMA07
import Derived.Test.YthjbmloemmggaaaGreatDoorMA08
import Derived.Test.YthjbmloemmggaaaGreatDoorMA09
import Derived.Test.YthjbmloemmggaaaGreatDoorMA10
import Derived.Test.YthjbmloemmggaaaGreatDoorMA11
import Derived.Test.YthjbmloemmggaaaGreatDoorMA12
import Derived.Test.YthjbmloemmggaaaGreatDoorMA13
import Derived.Test.YthjbmloemmggaaaGreatDoorMA14
import Derived.Test.YthjbmloemmggaaaGreatDoorMA15
import Derived.Test.YthjbmloemmggaaaGreatDoorMA16
import Derived.Test.YthjbmloemmggaaaGreatDoorMA17
import Derived.Test.YthjbmloemmggaaaGreatDoorMA18
import Derived.Test.YthjbmloemmggaaaGreatDoorMA19
import Derived.Test.YthjbmloemmggaaaGreatDoorMA20
import Derived.Test.YthjbmloemmggaaaGreatDoorMA21
import Derived.Test.YthjbmloemmggaaaGreatDoorMA22
import Derived.Test.YthjbmloemmggaaaGreatDoorMA23
import Derived.Test.YthjbmloemmggaaaGreatDoorMA24
import Derived.Test.YthjbmloemmggaaaGreatDoorMA25
import Derived.Test.YthjbmloemmggaaaGreatDoorMA26
import Derived.Test.YthjbmloemmggaaaGreatDoorMA27
import Derived.Test.YthjbmloemmggaaaGreatDoorMA28
namespace Go.Proofs.YthjbmloemmggaaaGreatDoor.topPieces
open Go.ChangeShapes Go.WideShapes Go.ChangeAt Go.RowKit
open Go.ChangeMaps (open_string)
set_option linter.unusedVariables false
set_option maxRecDepth 100000

theorem bytes3 : Tryz.prog.bytesOf 3 = 8 := by kernel_rfl
theorem lifted (os : Os) (started : os.Started) (H : Type) (enc : TypeId × Value → H) :
    ReturnsInHanded {} Tryz.checked os 3 .any (fun w args => (Rows.topPiecesSpec.pre enc Tryz.prog Tryz.f3 [] false w args ∧ laidMetH Tryz.prog laidL w) ∧ sizedMet enc Tryz.prog Tryz.f3 (OpenSpec.ofChange Rows.topPiecesSpec) false w args)
      (Rows.topPiecesSpec.post enc Tryz.prog Tryz.f3 false true false false) := by
  refine returnsInHanded_of_change_and (C := Tryz.checked) (X := fun w _ => laidMetH Tryz.prog laidL w) (fun _ _ _ hh h => h.of_heap hh) ownK started (by kernel_rfl) Tryz.func3
    (ChangeSpec.witness_shaped (enc := enc) (C := Tryz.checked) (os := os) (X := fun w _ => laidMetH Tryz.prog laidL w) false (World.doorLaid Tryz.prog 400 os) #[.agg #[.int .i64 0, .int .i64 0, .int .i64 0, .int .i64 0, .int .i64 0, .int .i64 0, .bool false, .bool false, .string ByteArray.empty, .string ByteArray.empty], .int .i64 0, .slice none 0 0] 8 rfl (World.shaped_of_RefB (by kernel_rfl) (by kernel_rfl)) (by kernel_rfl) (by kernel_rfl) (by kernel_rfl) (door_met os _)) ?_
  intro W base args ds gs before hval0 hW hcnd hsz0 hL _
  have hG := ord_of hL
  have hsz : (DataW.weightsEach Tryz.prog (Tryz.f3.params.toList ++ Rows.topPiecesSpec.plain.varTypes Tryz.prog) (ds ++ gs)).all (· ≤ reachBytes) = true := hsz0
  have hval : ∀ (j : Nat) t v, Tryz.f3.params[j]? = some t → args[j]? = some v → Value.okWide Tryz.prog W .any base t v := hval0
  have hW' := hW
  obtain ⟨p, q, hA0, hV, rfl, hfz, hnd⟩ := hW
  have hA : DataW.TrodAll enc Tryz.prog W 0 (fun _ => true) true Tryz.f3.params.toList args.toList ds p := hA0
  rw [Tryz.params3] at hA hval hsz
  obtain ⟨v0, vs0, d0, ds0, p0, q0, hargs, rfl, rfl, h0, r0⟩ := trodAll_cons hA
  obtain ⟨v1, vs1, d1, ds1, p1, q1, rfl, rfl, rfl, h1, r1⟩ := trodAll_cons r0
  obtain ⟨v2, vs2, d2, ds2, p2, q2, rfl, rfl, rfl, h2, r2⟩ := trodAll_cons r1
  obtain ⟨rfl, rfl, rfl⟩ := trodAll_nil r2
  obtain rfl : args = #[v0, v1, v2] := by cases args; simp_all
  obtain ⟨rfl, rfl⟩ := trodVars_none hV
  have k0 := h0
  have lt0 : ∀ x ∈ p0, x.block < W.heap.size := by obtain ⟨m, hm⟩ := k0; exact DataW.trod_lt m _ _ _ hm
  have k1 := h1
  have lt1 : ∀ x ∈ p1, x.block < W.heap.size := by obtain ⟨m, hm⟩ := k1; exact DataW.trod_lt m _ _ _ hm
  have k2 := h2
  have lt2 : ∀ x ∈ p2, x.block < W.heap.size := by obtain ⟨m, hm⟩ := k2; exact DataW.trod_lt m _ _ _ hm
  obtain ⟨a0, parts0, rfl, hdp0, y0_8, y0_9⟩ := open23 (hval 0 23 v0 rfl rfl) h0
  have z0_op := sized_str hsz (j := 0) (i := 8) rfl (by rw [hdp0]; rfl) Tryz.underlying23 rfl y0_8
  have z0_da := sized_str hsz (j := 0) (i := 9) rfl (by rw [hdp0]; rfl) Tryz.underlying23 rfl y0_9
  obtain ⟨a1, rfl, -, -, w1⟩ := open_int Tryz.underlying3 (hval 1 3 v1 rfl rfl) h1
  obtain ⟨a2, len2, c2, rfl⟩ := okWide_slice Tryz.underlying24 (hval 2 24 v2 rfl rfl)
  obtain ⟨zs2, hlen2, g2, y2⟩ : ∃ zs : List Int, zs.length = len2 ∧ (zs = [] ∨ ∃ x, a2 = some x ∧ ∀ i, i < zs.length → W.cell? (x.add i) = some (.int .i64 (zs.getD i 0))) ∧ zs.length * 8 ≤ 140737488351232 := by
    obtain ⟨fuel, hf⟩ := h2
    rcases open_ints Tryz.underlying24 Tryz.underlying3 (by kernel_rfl) hf with ⟨hcs, _⟩ | ⟨x, l, c, zs, hcs, _, hl, hm, hz, hx, hcell, hwz⟩
    · simp [Value.cells] at hcs
      obtain ⟨rfl, rfl, rfl⟩ := hcs
      exact ⟨[], rfl, .inl rfl, by simp⟩
    · simp [Value.cells] at hcs
      obtain ⟨rfl, rfl, rfl⟩ := hcs
      simp only [if_true] at hz
      have hd : d2 = .slice (lits .i64 (zs.take len2)) (lits .i64 (zs.drop len2)) := congrArg Prod.fst hx
      have hsl := sized_slice hsz (j := 2) (t := 24) (e := 3) rfl (by rw [hd]; rfl) Tryz.underlying24
      rw [bytes3] at hsl
      simp only [lits, List.length_map, List.length_take, List.length_drop, reachBytes] at hsl
      have htl : (zs.take len2).length = len2 := by rw [List.length_take]; omega
      refine ⟨zs.take len2, htl, .inr ⟨x, rfl, ?_⟩, ?_⟩
      · intro i hi
        rw [htl] at hi
        have e : (zs.take len2).getD i 0 = zs.getD i 0 := by
          simp only [List.getD, List.getElem?_take, if_pos hi]
        rw [e]
        exact hcell i (by omega)
      · rw [htl]; omega
  subst hlen2
  clear hA0 hval0
  refine (Ip.pieces_walk a0.f a0.t a0.tl a0.pr a0.id a0.fg a0.mo a0.dn a0.op a0.da a1 a2 c2 zs2 W hG z0_op z0_da g2 y2).mono fun e W' ⟨he, bel⟩ => ?_
  subst he
  exact ⟨_, rfl, _, _, _, [], _, [], hW', trodAll_mk1 (shut_bool Tryz.underlying4 _), (trodAll_cons_mk (Below.trod laidOutK (by kernel_rfl) (of_decide_eq_true (by kernel_rfl)) k0 bel lt0) (trodAll_cons_mk (Below.trod laidOutK (by kernel_rfl) (of_decide_eq_true (by kernel_rfl)) k1 bel lt1) (trodAll_cons_mk (Below.trod laidOutK (by kernel_rfl) (of_decide_eq_true (by kernel_rfl)) k2 bel lt2) trodAll_mk0))), rfl, bel.frame _, fun h => by cases h⟩

theorem over : Rows.topPiecesRow.holds Tryz.pinned (OpenSpec.ofChange Rows.topPiecesSpec) :=
  OpenClaim.holds_of_wide 3 Tryz.f3 rfl rfl rfl rfl rfl rfl rfl ⟨rfl, rfl, rfl, rfl, rfl⟩ rfl rfl rfl rfl rfl (by kernel_rfl) Tryz.func3 (by kernel_rfl)
    (of_decide_eq_true (by kernel_rfl)) (by unfold Func.isWrapper; first | (rw [if_pos (by decide +kernel)]; kernel_rfl) | (rw [if_neg (by decide +kernel)]; exact ⟨rfl, rfl⟩))
    (fun os started H enc _ => lifted os started H enc)

end Go.Proofs.YthjbmloemmggaaaGreatDoor.topPieces
namespace Go.Proofs.YthjbmloemmggaaaGreatDoor
open Go
theorem topPieces_card_holds : Rows.TopPiecesCardSaid :=
  Claim7.holds_tied_plain_at .later [] [.handle, .data] true (true, "c6ff8804a9d098060458a476fa9af1ff206881cf16b8433ae461589a7830e320") true
    topPieces.over (fun _ h => by cases h) (by kernel_rfl) (fun _ h => by cases h) topPieces_row_tie rfl ⟨rfl, rfl⟩ (by kernel_rfl) rfl
    (fun f fn hf hfn => by
      obtain rfl : f = 3 := Option.some.inj ((show Tryz.prog.funcNamed "sternpost/sternposttop.TopPieces" = some 3 by kernel_rfl).symm.trans hf) |>.symm
      obtain rfl : fn = Tryz.f3 := (Option.some.inj (Tryz.func3.symm.trans hfn)).symm
      exact ⟨by kernel_rfl, fun j t ht => by
        rw [Tryz.params3] at ht
        have hm : t ∈ [23, 3, 24] := by simpa using Array.mem_of_getElem? ht
        have hall : ([23, 3, 24].all fun u => !Tryz.prog.wantsStandIn u) = true := by kernel_rfl
        exact (show Tryz.prog.wantsStandIn t = false by simpa using List.all_eq_true.1 hall t hm)⟩)
    (by kernel_rfl)
end Go.Proofs.YthjbmloemmggaaaGreatDoor
