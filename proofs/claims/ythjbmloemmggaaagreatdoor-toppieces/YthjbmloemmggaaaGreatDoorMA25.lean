/- the texts Vc, Wt, in part, merged by program -/
import Derived.Test.YthjbmloemmggaaaGreatDoorProg
import Derived.Test.YthjbmloemmggaaaGreatDoorRows
import Derived.Deep.MidRow
import Derived.Deep.Cut
import Derived.WalkKit
import Derived.WalkSpells
import Derived.RegionTactic
import Derived.Below
import Derived.Laws.Tables
import Derived.Great.BuildSlice
import Derived.Laws.OwnMore
import Derived.Laws.AppendOwn
import Derived.Laws.AppendOwnNone
import Derived.Deep.LoopGhost
import Derived.Lib.Repeat
import Derived.Deep.RegionHeld3
import Derived.Deep.QuietTactic
import Derived.BigQuiet
import Derived.WalkSmall
import Derived.Laws.StructEq
import Derived.BigRegion
import Derived.Deep.Light
import Derived.Deep.RegionWith
import Derived.LoopN
import Derived.LaidEql
import Derived.Stop.Asserts
import Derived.RowKitTokens
import Derived.Recover
import Derived.RangeFuncBox
import Derived.OwnWalkIn
import Derived.TacticsInMore
import Derived.LoopNIn
import Derived.LoopIn
import Derived.Maps.AppendAt
import Derived.Shelf.RegionOpen
import Derived.OrdersIn
import Derived.RangeFuncCalls
import Derived.RangeFuncNested
import Derived.RangeFuncLeaves
import Derived.Shelf.Abstract
import Derived.Test.YthjbmloemmggaaaGreatDoorMA01
import Derived.Test.YthjbmloemmggaaaGreatDoorMA02
import Derived.Test.YthjbmloemmggaaaGreatDoorMA03
import Derived.Test.YthjbmloemmggaaaGreatDoorMA04
import Derived.Test.YthjbmloemmggaaaGreatDoorMA05
import Derived.Test.YthjbmloemmggaaaGreatDoorMA06
import Derived.Test.YthjbmloemmggaaaGreatDoorMA16
import Derived.Test.YthjbmloemmggaaaGreatDoorMA17
import Derived.Test.YthjbmloemmggaaaGreatDoorMA18
import Derived.Test.YthjbmloemmggaaaGreatDoorMA19
import Derived.Test.YthjbmloemmggaaaGreatDoorMA20
import Derived.Test.YthjbmloemmggaaaGreatDoorMA21
import Derived.Test.YthjbmloemmggaaaGreatDoorMA22
import Derived.Test.YthjbmloemmggaaaGreatDoorMA23
import Derived.Test.YthjbmloemmggaaaGreatDoorMA24
namespace Go.Proofs.YthjbmloemmggaaaGreatDoor
open Go.RowKit
set_option maxRecDepth 100000
set_option linter.unusedVariables false

theorem size23 : (Tryz.prog.info? 40).map (·.size) = some 4 := by kernel_rfl
theorem At.mid4 {W : World} {b : Nat} {z : Pd} {v : Value} (h : At W b (z.v v)) : W.there b 1 4 := fun j hj => by
  obtain rfl | rfl | rfl | rfl : j = 0 ∨ j = 1 ∨ j = 2 ∨ j = 3 := by omega
  all_goals exact ⟨by rw [(h.2 _ _ rfl).1]; rfl, (h.2 _ _ rfl).2⟩
theorem At.setFr {W : World} {b : Nat} {z : Pd} {v : Value} (h : At W b (z.v v)) (x : FrT) : At (W.setCells b 1 [.int .i64 x.a, .int .i64 x.b, .int .i64 x.k, .string x.d]) b (({ z with fr := x } : Pd).v v) := by
  have hr := World.rangeAt_setCells_same W b 1 [.int .i64 x.a, .int .i64 x.b, .int .i64 x.k, .string x.d] h.mid4
  refine ⟨by rw [size_setCells]; exact h.1, fun i u hi => ⟨?_, ?_⟩⟩
  · by_cases h0 : i = 0
    · subst h0
      rw [World.cell?_setCells_out b _ 1 W ⟨b, 0, none⟩ (fun _ _ => .inl (by show 0 < 1; omega))]
      exact (h.2 0 u hi).1
    · by_cases h5 : i < 5
      · obtain rfl | rfl | rfl | rfl : i = 1 ∨ i = 2 ∨ i = 3 ∨ i = 4 := by omega
        · exact hr 0 u hi
        · exact hr 1 u hi
        · exact hr 2 u hi
        · exact hr 3 u hi
      · obtain ⟨j, rfl⟩ : ∃ j, i = j + 5 := ⟨i - 5, by omega⟩
        rw [World.cell?_setCells_out b _ 1 W ⟨b, j + 5, none⟩ (fun _ _ => .inr (by show 1 + 4 ≤ j + 5; omega))]
        refine (h.2 (j + 5) u ?_).1
        rw [← Array.getElem?_toList] at hi ⊢
        exact hi
  · rw [World.frozen?_setCells]
    have hlt : i < 41 := (Array.getElem?_eq_some_iff.1 hi).1
    exact (h.2 i ((z.v v)[i]'hlt) (Array.getElem?_eq_getElem hlt)).2
def ShNil : Prop := ∀ (by' : Int) (W : World), Calls Tryz.prog 52 #[.nilIface, .int .i64 by'] W fun e w' => e = .returned .nilIface ∧ Below W.heap.size W w'
def ShFail (by' : Int) : Prop := ∀ (W : World) (p : Nat) (l : ByteArray) (a c : Int), OrE W → 0 ≤ a → a ≤ 140737488365328 → At W p (FailV l a c) → Calls Tryz.prog 52 #[.iface 103 (.pointer (some ⟨p, 0, none⟩)), .int .i64 by'] W fun e w' => ∃ q, e = .returned (.iface 103 (.pointer (some ⟨q, 0, none⟩))) ∧ W.heap.size ≤ q ∧ At w' q (FailV l (a + by') c) ∧ Below W.heap.size W w'
set_option maxHeartbeats 8000000 in
theorem con_4 (x : FrT) (y : PkT) (l : ByteArray) (a c : Int) (w : World)
    (hG : OrE w)
    (HSH : Hid (ShFail 14))
    (q : (x.k == 2054) = false) (q2 : (x.k == 2048) = true)
    (HIP : Hid (∀ W, Calls Tryz.prog 50 #[.string x.d] W fun e w' => e = .returned (.tuple #[.agg #[.int .i64 y.f, .int .i64 y.t, .int .i64 y.tl, .int .i64 y.pr, .int .i64 y.id, .int .i64 y.fg, .bool y.mo, .bool y.dn, .string y.op, .string y.da], .int .i64 0]) ∧ Below W.heap.size W w'))
    (HIN : Hid (∀ W, OrE W → Calls Tryz.prog 51 #[.agg #[.int .i64 y.f, .int .i64 y.t, .int .i64 y.tl, .int .i64 y.pr, .int .i64 y.id, .int .i64 y.fg, .bool y.mo, .bool y.dn, .string y.op, .string y.da]] W fun e w' => ∃ p, e = .returned (.tuple #[.agg PZ, .iface 103 (.pointer (some ⟨p, 0, none⟩))]) ∧ W.heap.size ≤ p ∧ At w' p (FailV l a c) ∧ Below W.heap.size W w'))
    (ha0 : 0 ≤ a) (ha1 : a ≤ 140737488365328) :
    Calls Tryz.prog 31 #[.agg #[.int .i64 x.a, .int .i64 x.b, .int .i64 x.k, .string x.d]] w fun e w' => ∃ p, e = .returned (.tuple #[.agg PZ, .iface 103 (.pointer (some ⟨p, 0, none⟩))]) ∧ w.heap.size ≤ p ∧ At w' p (FailV l (a + 14) (c)) ∧ Below w.heap.size w w' := by
  have hb1 := bel1 w (.cells #[.int .i64 x.a, .int .i64 x.b, .int .i64 x.k, .string x.d] 40)
  have hb2 := bel1 (w.alloc (.cells #[.int .i64 x.a, .int .i64 x.b, .int .i64 x.k, .string x.d] 40)) (.cells #[.int .i64 0, .int .i64 0, .int .i64 0, .int .i64 0, .string ⟨#[]⟩, .int .i64 0, .int .i64 0, .int .i64 0, .int .i64 0, .int .i64 0, .int .i64 0, .int .i64 0, .int .i64 0, .int .i64 0, .int .i64 0, .int .i64 0, .bool false, .bool false, .string ⟨#[]⟩, .string ⟨#[]⟩, .int .i64 0, .int .i64 0, .int .i64 0, .int .i64 0, .string ⟨#[]⟩, .int .i64 0, .int .i64 0, .int .i64 0, .int .i64 0, .int .i64 0, .int .i64 0, .int .i64 0, .int .i64 0, .int .i64 0, .int .i64 0, .int .i64 0, .bool false, .bool false, .bool false, .slice none 0 0, .string ⟨#[]⟩] 56)
  have hA := (At.box w #[.int .i64 x.a, .int .i64 x.b, .int .i64 x.k, .string x.d] 40).later hb2
  have hR : At ((w.alloc (.cells #[.int .i64 x.a, .int .i64 x.b, .int .i64 x.k, .string x.d] 40)).alloc (.cells #[.int .i64 0, .int .i64 0, .int .i64 0, .int .i64 0, .string ⟨#[]⟩, .int .i64 0, .int .i64 0, .int .i64 0, .int .i64 0, .int .i64 0, .int .i64 0, .int .i64 0, .int .i64 0, .int .i64 0, .int .i64 0, .int .i64 0, .bool false, .bool false, .string ⟨#[]⟩, .string ⟨#[]⟩, .int .i64 0, .int .i64 0, .int .i64 0, .int .i64 0, .string ⟨#[]⟩, .int .i64 0, .int .i64 0, .int .i64 0, .int .i64 0, .int .i64 0, .int .i64 0, .int .i64 0, .int .i64 0, .int .i64 0, .int .i64 0, .int .i64 0, .bool false, .bool false, .bool false, .slice none 0 0, .string ⟨#[]⟩] 56)) (w.heap.size + 1) PZ := At.box2 w (.cells #[.int .i64 x.a, .int .i64 x.b, .int .i64 x.k, .string x.d] 40) #[.int .i64 0, .int .i64 0, .int .i64 0, .int .i64 0, .string ⟨#[]⟩, .int .i64 0, .int .i64 0, .int .i64 0, .int .i64 0, .int .i64 0, .int .i64 0, .int .i64 0, .int .i64 0, .int .i64 0, .int .i64 0, .int .i64 0, .bool false, .bool false, .string ⟨#[]⟩, .string ⟨#[]⟩, .int .i64 0, .int .i64 0, .int .i64 0, .int .i64 0, .string ⟨#[]⟩, .int .i64 0, .int .i64 0, .int .i64 0, .int .i64 0, .int .i64 0, .int .i64 0, .int .i64 0, .int .i64 0, .int .i64 0, .int .i64 0, .int .i64 0, .bool false, .bool false, .bool false, .slice none 0 0, .string ⟨#[]⟩] 56
  have hl := bt hb1 hb2
  have hz := buildZ
  clear hb1 hb2
  go_enter Tryz.func31, Tryz.ntmps31
  go_upto_region 1 with fail
  generalize hw0 : (w.alloc (.cells #[.int .i64 x.a, .int .i64 x.b, .int .i64 x.k, .string x.d] 40)).alloc (.cells #[.int .i64 0, .int .i64 0, .int .i64 0, .int .i64 0, .string ⟨#[]⟩, .int .i64 0, .int .i64 0, .int .i64 0, .int .i64 0, .int .i64 0, .int .i64 0, .int .i64 0, .int .i64 0, .int .i64 0, .int .i64 0, .int .i64 0, .bool false, .bool false, .string ⟨#[]⟩, .string ⟨#[]⟩, .int .i64 0, .int .i64 0, .int .i64 0, .int .i64 0, .string ⟨#[]⟩, .int .i64 0, .int .i64 0, .int .i64 0, .int .i64 0, .int .i64 0, .int .i64 0, .int .i64 0, .int .i64 0, .int .i64 0, .int .i64 0, .int .i64 0, .bool false, .bool false, .bool false, .slice none 0 0, .string ⟨#[]⟩] 56) = w0 at *
  clear hw0
  have c2 := (hA.2 2 _ rfl).1
  have c3 := (hA.2 3 _ rfl).1
  go_wp2_with fail
  refine (HIP.out _).mono ?_
  rintro e w3 ⟨rfl, hb⟩
  have hbx := bel1 w3 (.cells #[.int .i64 y.f, .int .i64 y.t, .int .i64 y.tl, .int .i64 y.pr, .int .i64 y.id, .int .i64 y.fg, .bool y.mo, .bool y.dn, .string y.op, .string y.da] 23)
  have hI := At.box w3 #[.int .i64 y.f, .int .i64 y.t, .int .i64 y.tl, .int .i64 y.pr, .int .i64 y.id, .int .i64 y.fg, .bool y.mo, .bool y.dn, .string y.op, .string y.da] 23
  replace hb := bt hb hbx
  replace hl := bt hl hb
  replace hA := hA.later hb
  replace hR := hR.later hb
  clear hb HIP c2 c3
  go_upto_region 9 with fail
  obtain ⟨B6, hB6⟩ : ∃ B, B = w3.heap.size := ⟨_, rfl⟩
  rw [← hB6] at hI ⊢
  generalize w3.alloc (.cells #[.int .i64 y.f, .int .i64 y.t, .int .i64 y.tl, .int .i64 y.pr, .int .i64 y.id, .int .i64 y.fg, .bool y.mo, .bool y.dn, .string y.op, .string y.da] 23) = w4 at *
  clear hbx hB6
  have hlt0 : w.heap.size + 1 < w4.heap.size := hR.1
  go_upto_region 11 with fail
  go_cut [8, 9] from 10 (fun q y W => ∃ (B8 p : Nat), q = .pointer (some ⟨B8, 0, none⟩) ∧ y = .iface 103 (.pointer (some ⟨p, 0, none⟩)) ∧ Below w.heap.size w W ∧ At W (w.heap.size + 1) PZ ∧ At W B8 PZ ∧ At W p (FailV l a c))
  case first =>
    clear HSH
    go_wp2_with (refine wpList_loadG 23 _ (by rfl) (by rfl) B6 0 (by rfl) _ _ hI.range Tryz.underlying23 rfl size27 ?_)
    refine (HIN.out _ (hG.later hl)).mono ?_
    rintro e w5 ⟨p, rfl, hp, hP, hb⟩
    replace hl := bt hl hb
    replace hR := hR.later hb
    clear hb HIN hI hA
    have hX0 : At (w5.alloc (.cells #[.int .i64 0, .int .i64 0, .int .i64 0, .int .i64 0, .string ⟨#[]⟩, .int .i64 0, .int .i64 0, .int .i64 0, .int .i64 0, .int .i64 0, .int .i64 0, .int .i64 0, .int .i64 0, .int .i64 0, .int .i64 0, .int .i64 0, .bool false, .bool false, .string ⟨#[]⟩, .string ⟨#[]⟩, .int .i64 0, .int .i64 0, .int .i64 0, .int .i64 0, .string ⟨#[]⟩, .int .i64 0, .int .i64 0, .int .i64 0, .int .i64 0, .int .i64 0, .int .i64 0, .int .i64 0, .int .i64 0, .int .i64 0, .int .i64 0, .int .i64 0, .bool false, .bool false, .bool false, .slice none 0 0, .string ⟨#[]⟩] 56)) w5.heap.size PZ := At.box w5 #[.int .i64 0, .int .i64 0, .int .i64 0, .int .i64 0, .string ⟨#[]⟩, .int .i64 0, .int .i64 0, .int .i64 0, .int .i64 0, .int .i64 0, .int .i64 0, .int .i64 0, .int .i64 0, .int .i64 0, .int .i64 0, .int .i64 0, .bool false, .bool false, .string ⟨#[]⟩, .string ⟨#[]⟩, .int .i64 0, .int .i64 0, .int .i64 0, .int .i64 0, .string ⟨#[]⟩, .int .i64 0, .int .i64 0, .int .i64 0, .int .i64 0, .int .i64 0, .int .i64 0, .int .i64 0, .int .i64 0, .int .i64 0, .int .i64 0, .int .i64 0, .bool false, .bool false, .bool false, .slice none 0 0, .string ⟨#[]⟩] 56
    have hbx : Below w5.heap.size w5 ((w5.alloc (.cells #[.int .i64 0, .int .i64 0, .int .i64 0, .int .i64 0, .string ⟨#[]⟩, .int .i64 0, .int .i64 0, .int .i64 0, .int .i64 0, .int .i64 0, .int .i64 0, .int .i64 0, .int .i64 0, .int .i64 0, .int .i64 0, .int .i64 0, .bool false, .bool false, .string ⟨#[]⟩, .string ⟨#[]⟩, .int .i64 0, .int .i64 0, .int .i64 0, .int .i64 0, .string ⟨#[]⟩, .int .i64 0, .int .i64 0, .int .i64 0, .int .i64 0, .int .i64 0, .int .i64 0, .int .i64 0, .int .i64 0, .int .i64 0, .int .i64 0, .int .i64 0, .bool false, .bool false, .bool false, .slice none 0 0, .string ⟨#[]⟩] 56)).setCells w5.heap.size 0 PZ.toList) := Below.setCells (Nat.le_refl _) _ _ _ (bel1 w5 (.cells #[.int .i64 0, .int .i64 0, .int .i64 0, .int .i64 0, .string ⟨#[]⟩, .int .i64 0, .int .i64 0, .int .i64 0, .int .i64 0, .int .i64 0, .int .i64 0, .int .i64 0, .int .i64 0, .int .i64 0, .int .i64 0, .int .i64 0, .bool false, .bool false, .string ⟨#[]⟩, .string ⟨#[]⟩, .int .i64 0, .int .i64 0, .int .i64 0, .int .i64 0, .string ⟨#[]⟩, .int .i64 0, .int .i64 0, .int .i64 0, .int .i64 0, .int .i64 0, .int .i64 0, .int .i64 0, .int .i64 0, .int .i64 0, .int .i64 0, .int .i64 0, .bool false, .bool false, .bool false, .slice none 0 0, .string ⟨#[]⟩] 56))
    have hX : At ((w5.alloc (.cells #[.int .i64 0, .int .i64 0, .int .i64 0, .int .i64 0, .string ⟨#[]⟩, .int .i64 0, .int .i64 0, .int .i64 0, .int .i64 0, .int .i64 0, .int .i64 0, .int .i64 0, .int .i64 0, .int .i64 0, .int .i64 0, .int .i64 0, .bool false, .bool false, .string ⟨#[]⟩, .string ⟨#[]⟩, .int .i64 0, .int .i64 0, .int .i64 0, .int .i64 0, .string ⟨#[]⟩, .int .i64 0, .int .i64 0, .int .i64 0, .int .i64 0, .int .i64 0, .int .i64 0, .int .i64 0, .int .i64 0, .int .i64 0, .int .i64 0, .int .i64 0, .bool false, .bool false, .bool false, .slice none 0 0, .string ⟨#[]⟩] 56)).setCells w5.heap.size 0 PZ.toList) w5.heap.size PZ := At.whole (vs := PZ) hX0 rfl
    go_wp2_with (refine wpList_store_mid (by rfl) 56 _ _ (by rfl) (w5.heap.size) 0 PZ (by rfl) (by rfl) hX0.there size36 PZ_one ?_)
    go_wp2
    go_meet
    case rel => exact ⟨w5.heap.size, p, rfl, rfl, bt hl hbx, hR.later hbx, hX, hP.later hbx⟩
  case rest =>
  clear hl hR hI hA HIN
  obtain ⟨B8, p, rfl, rfl, hl, hR, hX, hP⟩ := hcut
  have HX : Hid (Below w.heap.size w wc ∧ At wc (w.heap.size + 1) PZ ∧ At wc B8 PZ ∧ At wc p (FailV l a c)) := ⟨hl, hR, hX, hP⟩
  clear hl hR hX hP
  go_wp2
  refine wp_region_any (by kernel_rfl) ?_
  refine region_facts_end (fun W => Below wc.heap.size wc W) (GE (fun qq => match qq with | 0 => .agg PZ | 1 => .iface 103 (.pointer (some ⟨p, 0, none⟩)) | _ => undef) (fun qq => match qq with | 2 => some (fun v W => ∃ q, v = .iface 103 (.pointer (some ⟨q, 0, none⟩)) ∧ wc.heap.size ≤ q ∧ At W q (FailV l (a + 14) c)) | _ => none)) (n := 53) 3 8 (by kernel_rfl) (by kernel_rfl) rfl (by kernel_rfl) (GE_later _ _ (by
      intro i F hF v w w' h hb
      split at hF
      · obtain rfl := Option.some.inj hF
        obtain ⟨q, e, h0, h1⟩ := h
        exact ⟨q, e, h0, h1.later hb⟩
      · cases hF)) ?_ ?_ ((Below.refl _ _).drew) (Nat.le_refl _)
  · skip
    refine ⟨?_, ?_, ?_, trivial⟩
    · intro ac w1 hS hT hB hD K hK
      rw [if_pos (by rfl)]
      have d8 : ac.tmps.getD 8 undef = .pointer (some ⟨B8, 0, none⟩) := hB 8 (by kernel_rfl)
      clear hB hD hT
      exact wp_load_mid 56 (.tmp 8) rfl B8 0 d8 _ _ (HX.out.2.2.1.later hS).range Tryz.underlying56 rfl size36 (hK _ _ hS (Below.refl _ _) rfl)
    · intro ac w1 hS hT hB hD K hK
      rw [if_pos (by rfl)]
      have d9 : ac.tmps.getD 9 undef = .iface 103 (.pointer (some ⟨p, 0, none⟩)) := hB 9 (by kernel_rfl)
      clear hB hD hT
      go_simp
      exact hK _ _ hS (Below.refl _ _) rfl
    · intro ac w1 hS hT hB hD K hK
      rw [if_pos (by rfl)]
      have d48 : ac.tmps.getD 48 undef = .iface 103 (.pointer (some ⟨p, 0, none⟩)) := hD ⟨1, .data⟩ (by simp) rfl _ 48 rfl rfl
      clear hB hD hT
      go_simp
      refine (HSH.out _ p l a c (hG.later (bt HX.out.1 hS)) ha0 ha1 (HX.out.2.2.2.later hS)).mono ?_
      rintro e w' ⟨q, rfl, hq, hQ, hb⟩
      exact hK _ _ (bt hS hb) hb ⟨q, rfl, Nat.le_trans hS.size hq, hQ⟩
  · intro ac w9 hS hT hdf hB hF
    obtain ⟨⟨ll⟩, df⟩ := ac
    match ll, hT with
    | x0 :: x1 :: x2 :: x3 :: x4 :: x5 :: x6 :: x7 :: x8 :: x9 :: x10 :: x11 :: x12 :: x13 :: x14 :: x15 :: x16 :: x17 :: x18 :: x19 :: x20 :: x21 :: x22 :: x23 :: x24 :: x25 :: x26 :: x27 :: x28 :: x29 :: x30 :: x31 :: x32 :: x33 :: x34 :: x35 :: x36 :: x37 :: x38 :: x39 :: x40 :: x41 :: x42 :: x43 :: x44 :: x45 :: x46 :: x47 :: x48 :: x49 :: x50 :: x51 :: x52 :: [], _ =>
      have s2 : x2 = .pointer (some ⟨w.heap.size + 1, 0, none⟩) := hB 2 (by kernel_rfl)
      have s47 : x47 = .agg PZ := hF 0 _ 47 (by decide) rfl rfl
      obtain ⟨q, s49, hq, hQ⟩ : ∃ q, x49 = .iface 103 (.pointer (some ⟨q, 0, none⟩)) ∧ wc.heap.size ≤ q ∧ At w9 q (FailV l (a + 14) c) := hF 2 _ 49 (by decide) rfl rfl
      have sd : df = [] := hdf
      subst s2 s47 s49 sd
      clear hB hF HSH
      have hl := bt HX.out.1 hS
      have hR := HX.out.2.1.later hS
      have hlt : w.heap.size + 1 < q := Nat.lt_of_lt_of_le HX.out.2.1.1 hq
      clear HX hS
      intro Kc hKc
      rw [if_pos (by rfl)]
      refine wp_store_mid 56 (.tmp 2) (.tmp 47) (by rfl) (w.heap.size + 1) 0 PZ (by rfl) (by rfl) hR.there size36 PZ_one ?_
      apply hKc
      clear hKc Kc
      intro Kc hKc
      rw [if_pos (by rfl)]
      go_simp
      apply hKc
      clear hKc Kc
      refine TailOk_nil ?_
      go_wp2
      exact bodyPost_ret (v := .tuple #[.agg PZ, .iface 103 (.pointer (some ⟨q, 0, none⟩))]) (ret_cell41 (by rfl) (At.whole (vs := PZ) hR rfl) rfl (by rfl) (by rfl)) (by rfl) ⟨q, rfl, by omega, At.apart hQ (Nat.ne_of_lt hlt) _ _, Below.setCells (by omega) _ _ _ hl⟩
set_option maxHeartbeats 8000000 in
theorem con_5 (x : FrT) (y : PkT) (z : Pd) (w : World)
    (hG : OrE w)
    (HSH : Hid ShNil)
    (q : (x.k == 2054) = false) (q2 : (x.k == 2048) = true)
    (HIP : Hid (∀ W, Calls Tryz.prog 50 #[.string x.d] W fun e w' => e = .returned (.tuple #[.agg #[.int .i64 y.f, .int .i64 y.t, .int .i64 y.tl, .int .i64 y.pr, .int .i64 y.id, .int .i64 y.fg, .bool y.mo, .bool y.dn, .string y.op, .string y.da], .int .i64 0]) ∧ Below W.heap.size W w'))
    (HIN : Hid (∀ W, OrE W → Calls Tryz.prog 51 #[.agg #[.int .i64 y.f, .int .i64 y.t, .int .i64 y.tl, .int .i64 y.pr, .int .i64 y.id, .int .i64 y.fg, .bool y.mo, .bool y.dn, .string y.op, .string y.da]] W fun e w' => ∃ v, e = .returned (.tuple #[.agg (z.v v), .nilIface]) ∧ RgA W.heap.size w' v z.sg.o.rs ∧ Below W.heap.size W w')) :
    Calls Tryz.prog 31 #[.agg #[.int .i64 x.a, .int .i64 x.b, .int .i64 x.k, .string x.d]] w fun e w' => ∃ v, e = .returned (.tuple #[.agg (Pd.v (z) v), .nilIface]) ∧ RgA w.heap.size w' v (z).sg.o.rs ∧ Below w.heap.size w w' := by
  have hb1 := bel1 w (.cells #[.int .i64 x.a, .int .i64 x.b, .int .i64 x.k, .string x.d] 40)
  have hb2 := bel1 (w.alloc (.cells #[.int .i64 x.a, .int .i64 x.b, .int .i64 x.k, .string x.d] 40)) (.cells #[.int .i64 0, .int .i64 0, .int .i64 0, .int .i64 0, .string ⟨#[]⟩, .int .i64 0, .int .i64 0, .int .i64 0, .int .i64 0, .int .i64 0, .int .i64 0, .int .i64 0, .int .i64 0, .int .i64 0, .int .i64 0, .int .i64 0, .bool false, .bool false, .string ⟨#[]⟩, .string ⟨#[]⟩, .int .i64 0, .int .i64 0, .int .i64 0, .int .i64 0, .string ⟨#[]⟩, .int .i64 0, .int .i64 0, .int .i64 0, .int .i64 0, .int .i64 0, .int .i64 0, .int .i64 0, .int .i64 0, .int .i64 0, .int .i64 0, .int .i64 0, .bool false, .bool false, .bool false, .slice none 0 0, .string ⟨#[]⟩] 56)
  have hA := (At.box w #[.int .i64 x.a, .int .i64 x.b, .int .i64 x.k, .string x.d] 40).later hb2
  have hR : At ((w.alloc (.cells #[.int .i64 x.a, .int .i64 x.b, .int .i64 x.k, .string x.d] 40)).alloc (.cells #[.int .i64 0, .int .i64 0, .int .i64 0, .int .i64 0, .string ⟨#[]⟩, .int .i64 0, .int .i64 0, .int .i64 0, .int .i64 0, .int .i64 0, .int .i64 0, .int .i64 0, .int .i64 0, .int .i64 0, .int .i64 0, .int .i64 0, .bool false, .bool false, .string ⟨#[]⟩, .string ⟨#[]⟩, .int .i64 0, .int .i64 0, .int .i64 0, .int .i64 0, .string ⟨#[]⟩, .int .i64 0, .int .i64 0, .int .i64 0, .int .i64 0, .int .i64 0, .int .i64 0, .int .i64 0, .int .i64 0, .int .i64 0, .int .i64 0, .int .i64 0, .bool false, .bool false, .bool false, .slice none 0 0, .string ⟨#[]⟩] 56)) (w.heap.size + 1) PZ := At.box2 w (.cells #[.int .i64 x.a, .int .i64 x.b, .int .i64 x.k, .string x.d] 40) #[.int .i64 0, .int .i64 0, .int .i64 0, .int .i64 0, .string ⟨#[]⟩, .int .i64 0, .int .i64 0, .int .i64 0, .int .i64 0, .int .i64 0, .int .i64 0, .int .i64 0, .int .i64 0, .int .i64 0, .int .i64 0, .int .i64 0, .bool false, .bool false, .string ⟨#[]⟩, .string ⟨#[]⟩, .int .i64 0, .int .i64 0, .int .i64 0, .int .i64 0, .string ⟨#[]⟩, .int .i64 0, .int .i64 0, .int .i64 0, .int .i64 0, .int .i64 0, .int .i64 0, .int .i64 0, .int .i64 0, .int .i64 0, .int .i64 0, .int .i64 0, .bool false, .bool false, .bool false, .slice none 0 0, .string ⟨#[]⟩] 56
  have hl := bt hb1 hb2
  have hz := buildZ
  clear hb1 hb2
  go_enter Tryz.func31, Tryz.ntmps31
  go_upto_region 1 with fail
  generalize hw0 : (w.alloc (.cells #[.int .i64 x.a, .int .i64 x.b, .int .i64 x.k, .string x.d] 40)).alloc (.cells #[.int .i64 0, .int .i64 0, .int .i64 0, .int .i64 0, .string ⟨#[]⟩, .int .i64 0, .int .i64 0, .int .i64 0, .int .i64 0, .int .i64 0, .int .i64 0, .int .i64 0, .int .i64 0, .int .i64 0, .int .i64 0, .int .i64 0, .bool false, .bool false, .string ⟨#[]⟩, .string ⟨#[]⟩, .int .i64 0, .int .i64 0, .int .i64 0, .int .i64 0, .string ⟨#[]⟩, .int .i64 0, .int .i64 0, .int .i64 0, .int .i64 0, .int .i64 0, .int .i64 0, .int .i64 0, .int .i64 0, .int .i64 0, .int .i64 0, .int .i64 0, .bool false, .bool false, .bool false, .slice none 0 0, .string ⟨#[]⟩] 56) = w0 at *
  clear hw0
  have c2 := (hA.2 2 _ rfl).1
  have c3 := (hA.2 3 _ rfl).1
  go_wp2_with fail
  refine (HIP.out _).mono ?_
  rintro e w3 ⟨rfl, hb⟩
  have hbx := bel1 w3 (.cells #[.int .i64 y.f, .int .i64 y.t, .int .i64 y.tl, .int .i64 y.pr, .int .i64 y.id, .int .i64 y.fg, .bool y.mo, .bool y.dn, .string y.op, .string y.da] 23)
  have hI := At.box w3 #[.int .i64 y.f, .int .i64 y.t, .int .i64 y.tl, .int .i64 y.pr, .int .i64 y.id, .int .i64 y.fg, .bool y.mo, .bool y.dn, .string y.op, .string y.da] 23
  replace hb := bt hb hbx
  replace hl := bt hl hb
  replace hA := hA.later hb
  replace hR := hR.later hb
  clear hb HIP c2 c3
  go_upto_region 9 with fail
  obtain ⟨B6, hB6⟩ : ∃ B, B = w3.heap.size := ⟨_, rfl⟩
  rw [← hB6] at hI ⊢
  generalize w3.alloc (.cells #[.int .i64 y.f, .int .i64 y.t, .int .i64 y.tl, .int .i64 y.pr, .int .i64 y.id, .int .i64 y.fg, .bool y.mo, .bool y.dn, .string y.op, .string y.da] 23) = w4 at *
  clear hbx hB6
  have hlt0 : w.heap.size + 1 < w4.heap.size := hR.1
  go_upto_region 11 with fail
  go_cut [8, 9] from 10 (fun q y W => ∃ (B8 : Nat) (a0 : Option Addr) (cap0 : Nat), q = .pointer (some ⟨B8, 0, none⟩) ∧ y = .nilIface ∧ Below w.heap.size w W ∧ At W (w.heap.size + 1) PZ ∧ At W B8 (z.v (.slice a0 z.sg.o.rs.length cap0)) ∧ RgA w4.heap.size W (.slice a0 z.sg.o.rs.length cap0) z.sg.o.rs)
  case first =>
    clear HSH
    go_wp2_with (refine wpList_loadG 23 _ (by rfl) (by rfl) B6 0 (by rfl) _ _ hI.range Tryz.underlying23 rfl size27 ?_)
    refine (HIN.out _ (hG.later hl)).mono ?_
    rintro e w5 ⟨v, rfl, hvr, hb⟩
    obtain ⟨a0, cap0, hve, -⟩ := id hvr
    subst hve
    replace hl := bt hl hb
    replace hR := hR.later hb
    clear hb HIN hI hA
    have hX0 : At (w5.alloc (.cells #[.int .i64 0, .int .i64 0, .int .i64 0, .int .i64 0, .string ⟨#[]⟩, .int .i64 0, .int .i64 0, .int .i64 0, .int .i64 0, .int .i64 0, .int .i64 0, .int .i64 0, .int .i64 0, .int .i64 0, .int .i64 0, .int .i64 0, .bool false, .bool false, .string ⟨#[]⟩, .string ⟨#[]⟩, .int .i64 0, .int .i64 0, .int .i64 0, .int .i64 0, .string ⟨#[]⟩, .int .i64 0, .int .i64 0, .int .i64 0, .int .i64 0, .int .i64 0, .int .i64 0, .int .i64 0, .int .i64 0, .int .i64 0, .int .i64 0, .int .i64 0, .bool false, .bool false, .bool false, .slice none 0 0, .string ⟨#[]⟩] 56)) w5.heap.size PZ := At.box w5 #[.int .i64 0, .int .i64 0, .int .i64 0, .int .i64 0, .string ⟨#[]⟩, .int .i64 0, .int .i64 0, .int .i64 0, .int .i64 0, .int .i64 0, .int .i64 0, .int .i64 0, .int .i64 0, .int .i64 0, .int .i64 0, .int .i64 0, .bool false, .bool false, .string ⟨#[]⟩, .string ⟨#[]⟩, .int .i64 0, .int .i64 0, .int .i64 0, .int .i64 0, .string ⟨#[]⟩, .int .i64 0, .int .i64 0, .int .i64 0, .int .i64 0, .int .i64 0, .int .i64 0, .int .i64 0, .int .i64 0, .int .i64 0, .int .i64 0, .int .i64 0, .bool false, .bool false, .bool false, .slice none 0 0, .string ⟨#[]⟩] 56
    have hbx : Below w5.heap.size w5 ((w5.alloc (.cells #[.int .i64 0, .int .i64 0, .int .i64 0, .int .i64 0, .string ⟨#[]⟩, .int .i64 0, .int .i64 0, .int .i64 0, .int .i64 0, .int .i64 0, .int .i64 0, .int .i64 0, .int .i64 0, .int .i64 0, .int .i64 0, .int .i64 0, .bool false, .bool false, .string ⟨#[]⟩, .string ⟨#[]⟩, .int .i64 0, .int .i64 0, .int .i64 0, .int .i64 0, .string ⟨#[]⟩, .int .i64 0, .int .i64 0, .int .i64 0, .int .i64 0, .int .i64 0, .int .i64 0, .int .i64 0, .int .i64 0, .int .i64 0, .int .i64 0, .int .i64 0, .bool false, .bool false, .bool false, .slice none 0 0, .string ⟨#[]⟩] 56)).setCells w5.heap.size 0 (z.v (.slice a0 z.sg.o.rs.length cap0)).toList) := Below.setCells (Nat.le_refl _) _ _ _ (bel1 w5 (.cells #[.int .i64 0, .int .i64 0, .int .i64 0, .int .i64 0, .string ⟨#[]⟩, .int .i64 0, .int .i64 0, .int .i64 0, .int .i64 0, .int .i64 0, .int .i64 0, .int .i64 0, .int .i64 0, .int .i64 0, .int .i64 0, .int .i64 0, .bool false, .bool false, .string ⟨#[]⟩, .string ⟨#[]⟩, .int .i64 0, .int .i64 0, .int .i64 0, .int .i64 0, .string ⟨#[]⟩, .int .i64 0, .int .i64 0, .int .i64 0, .int .i64 0, .int .i64 0, .int .i64 0, .int .i64 0, .int .i64 0, .int .i64 0, .int .i64 0, .int .i64 0, .bool false, .bool false, .bool false, .slice none 0 0, .string ⟨#[]⟩] 56))
    have hX : At ((w5.alloc (.cells #[.int .i64 0, .int .i64 0, .int .i64 0, .int .i64 0, .string ⟨#[]⟩, .int .i64 0, .int .i64 0, .int .i64 0, .int .i64 0, .int .i64 0, .int .i64 0, .int .i64 0, .int .i64 0, .int .i64 0, .int .i64 0, .int .i64 0, .bool false, .bool false, .string ⟨#[]⟩, .string ⟨#[]⟩, .int .i64 0, .int .i64 0, .int .i64 0, .int .i64 0, .string ⟨#[]⟩, .int .i64 0, .int .i64 0, .int .i64 0, .int .i64 0, .int .i64 0, .int .i64 0, .int .i64 0, .int .i64 0, .int .i64 0, .int .i64 0, .int .i64 0, .bool false, .bool false, .bool false, .slice none 0 0, .string ⟨#[]⟩] 56)).setCells w5.heap.size 0 (z.v (.slice a0 z.sg.o.rs.length cap0)).toList) w5.heap.size (z.v (.slice a0 z.sg.o.rs.length cap0)) := At.whole (vs := (z.v (.slice a0 z.sg.o.rs.length cap0))) hX0 rfl
    go_wp2_with (refine wpList_store_mid (by rfl) 56 _ _ (by rfl) (w5.heap.size) 0 (z.v (.slice a0 z.sg.o.rs.length cap0)) (by rfl) (by rfl) hX0.there size36 (Pd.one _ rfl) ?_)
    go_wp2
    go_meet
    case rel => exact ⟨w5.heap.size, a0, cap0, rfl, rfl, bt hl hbx, hR.later hbx, hX, hvr.later hbx⟩
  case rest =>
  clear hl hR hI hA HIN
  obtain ⟨B8, a0, cap0, rfl, rfl, hl, hR, hX, hvr⟩ := hcut
  have HX : Hid (Below w.heap.size w wc ∧ At wc (w.heap.size + 1) PZ ∧ At wc B8 (z.v (.slice a0 z.sg.o.rs.length cap0)) ∧ RgA w4.heap.size wc (.slice a0 z.sg.o.rs.length cap0) z.sg.o.rs) := ⟨hl, hR, hX, hvr⟩
  clear hl hR hX hvr
  go_wp2
  refine wp_region_any (by kernel_rfl) ?_
  refine region_facts_end (fun W => Below wc.heap.size wc W) (GE (fun qq => match qq with | 0 => .agg (z.v (.slice a0 z.sg.o.rs.length cap0)) | 1 => .nilIface | 2 => .nilIface | _ => undef) (fun _ => none)) (n := 53) 3 8 (by kernel_rfl) (by kernel_rfl) rfl (by kernel_rfl) (GE_later _ _ (fun _ _ h => by cases h)) ?_ ?_ ((Below.refl _ _).drew) (Nat.le_refl _)
  · skip
    refine ⟨?_, ?_, ?_, trivial⟩
    · intro ac w1 hS hT hB hD K hK
      rw [if_pos (by rfl)]
      have d8 : ac.tmps.getD 8 undef = .pointer (some ⟨B8, 0, none⟩) := hB 8 (by kernel_rfl)
      clear hB hD hT
      exact wp_load_mid 56 (.tmp 8) rfl B8 0 d8 _ _ (HX.out.2.2.1.later hS).range Tryz.underlying56 rfl size36 (hK _ _ hS (Below.refl _ _) rfl)
    · intro ac w1 hS hT hB hD K hK
      rw [if_pos (by rfl)]
      have d9 : ac.tmps.getD 9 undef = .nilIface := hB 9 (by kernel_rfl)
      clear hB hD hT
      go_simp
      exact hK _ _ hS (Below.refl _ _) rfl
    · intro ac w1 hS hT hB hD K hK
      rw [if_pos (by rfl)]
      have d48 : ac.tmps.getD 48 undef = .nilIface := hD ⟨1, .data⟩ (by simp) rfl _ 48 rfl rfl
      clear hB hD hT
      go_simp
      refine (HSH.out 14 _).mono ?_
      rintro e w' ⟨rfl, hb⟩
      exact hK _ _ (bt hS hb) hb rfl
  · intro ac w9 hS hT hdf hB hF
    obtain ⟨⟨ll⟩, df⟩ := ac
    match ll, hT with
    | x0 :: x1 :: x2 :: x3 :: x4 :: x5 :: x6 :: x7 :: x8 :: x9 :: x10 :: x11 :: x12 :: x13 :: x14 :: x15 :: x16 :: x17 :: x18 :: x19 :: x20 :: x21 :: x22 :: x23 :: x24 :: x25 :: x26 :: x27 :: x28 :: x29 :: x30 :: x31 :: x32 :: x33 :: x34 :: x35 :: x36 :: x37 :: x38 :: x39 :: x40 :: x41 :: x42 :: x43 :: x44 :: x45 :: x46 :: x47 :: x48 :: x49 :: x50 :: x51 :: x52 :: [], _ =>
      have s2 : x2 = .pointer (some ⟨w.heap.size + 1, 0, none⟩) := hB 2 (by kernel_rfl)
      have s47 : x47 = .agg (z.v (.slice a0 z.sg.o.rs.length cap0)) := hF 0 _ 47 (by decide) rfl rfl
      have s49 : x49 = .nilIface := hF 2 _ 49 (by decide) rfl rfl
      have sd : df = [] := hdf
      subst s2 s47 s49 sd
      clear hB hF HSH
      have hl := bt HX.out.1 hS
      have hR := HX.out.2.1.later hS
      have hvr := HX.out.2.2.2.later hS
      clear HX hS
      intro Kc hKc
      rw [if_pos (by rfl)]
      refine wp_store_mid 56 (.tmp 2) (.tmp 47) (by rfl) (w.heap.size + 1) 0 (z.v (.slice a0 z.sg.o.rs.length cap0)) (by rfl) (by rfl) hR.there size36 (Pd.one _ rfl) ?_
      apply hKc
      clear hKc Kc
      intro Kc hKc
      rw [if_pos (by rfl)]
      go_simp
      apply hKc
      clear hKc Kc
      refine TailOk_nil ?_
      go_wp2
      exact bodyPost_ret (v := .tuple #[.agg (z.v (.slice a0 z.sg.o.rs.length cap0)), .nilIface]) (ret_cell41 (by rfl) (At.whole (vs := (z.v (.slice a0 z.sg.o.rs.length cap0))) hR rfl) rfl (by rfl) (by rfl)) (by rfl) ⟨_, rfl, (hvr.setCells _ _ _ hlt0).mono (by omega), Below.setCells (by omega) _ _ _ hl⟩
set_option maxHeartbeats 8000000 in
theorem par_2 (st : ByteArray) (x : FrT) (l : ByteArray) (a c : Int) (w : World)
    (hG : OrE w)
    (HED : Hid (∀ W, Calls Tryz.prog 29 #[.string st] W fun e w' => e = .returned (.tuple #[.agg #[.int .i64 x.a, .int .i64 x.b, .int .i64 x.k, .string x.d], .int .i64 0]) ∧ Below W.heap.size W w'))
    (HCO : Hid (∀ W, OrE W → Calls Tryz.prog 31 #[.agg #[.int .i64 x.a, .int .i64 x.b, .int .i64 x.k, .string x.d]] W fun e w' => ∃ p, e = .returned (.tuple #[.agg PZ, .iface 103 (.pointer (some ⟨p, 0, none⟩))]) ∧ W.heap.size ≤ p ∧ At w' p (FailV l a c) ∧ Below W.heap.size W w')) :
    Calls Tryz.prog 13 #[.string st] w fun e w' => ∃ p, e = .returned (.tuple #[.agg PZ, .iface 103 (.pointer (some ⟨p, 0, none⟩))]) ∧ w.heap.size ≤ p ∧ At w' p (FailV l (a) (c)) ∧ Below w.heap.size w w' := by
  have hR : At (w.alloc (.cells #[.int .i64 0, .int .i64 0, .int .i64 0, .int .i64 0, .string ⟨#[]⟩, .int .i64 0, .int .i64 0, .int .i64 0, .int .i64 0, .int .i64 0, .int .i64 0, .int .i64 0, .int .i64 0, .int .i64 0, .int .i64 0, .int .i64 0, .bool false, .bool false, .string ⟨#[]⟩, .string ⟨#[]⟩, .int .i64 0, .int .i64 0, .int .i64 0, .int .i64 0, .string ⟨#[]⟩, .int .i64 0, .int .i64 0, .int .i64 0, .int .i64 0, .int .i64 0, .int .i64 0, .int .i64 0, .int .i64 0, .int .i64 0, .int .i64 0, .int .i64 0, .bool false, .bool false, .bool false, .slice none 0 0, .string ⟨#[]⟩] 56)) w.heap.size PZ := At.box w #[.int .i64 0, .int .i64 0, .int .i64 0, .int .i64 0, .string ⟨#[]⟩, .int .i64 0, .int .i64 0, .int .i64 0, .int .i64 0, .int .i64 0, .int .i64 0, .int .i64 0, .int .i64 0, .int .i64 0, .int .i64 0, .int .i64 0, .bool false, .bool false, .string ⟨#[]⟩, .string ⟨#[]⟩, .int .i64 0, .int .i64 0, .int .i64 0, .int .i64 0, .string ⟨#[]⟩, .int .i64 0, .int .i64 0, .int .i64 0, .int .i64 0, .int .i64 0, .int .i64 0, .int .i64 0, .int .i64 0, .int .i64 0, .int .i64 0, .int .i64 0, .bool false, .bool false, .bool false, .slice none 0 0, .string ⟨#[]⟩] 56
  have hl := bel1 w (.cells #[.int .i64 0, .int .i64 0, .int .i64 0, .int .i64 0, .string ⟨#[]⟩, .int .i64 0, .int .i64 0, .int .i64 0, .int .i64 0, .int .i64 0, .int .i64 0, .int .i64 0, .int .i64 0, .int .i64 0, .int .i64 0, .int .i64 0, .bool false, .bool false, .string ⟨#[]⟩, .string ⟨#[]⟩, .int .i64 0, .int .i64 0, .int .i64 0, .int .i64 0, .string ⟨#[]⟩, .int .i64 0, .int .i64 0, .int .i64 0, .int .i64 0, .int .i64 0, .int .i64 0, .int .i64 0, .int .i64 0, .int .i64 0, .int .i64 0, .int .i64 0, .bool false, .bool false, .bool false, .slice none 0 0, .string ⟨#[]⟩] 56)
  have hz := buildZ
  go_enter Tryz.func13, Tryz.ntmps13
  go_upto_region 1 with fail
  generalize hw0 : w.alloc (.cells #[.int .i64 0, .int .i64 0, .int .i64 0, .int .i64 0, .string ⟨#[]⟩, .int .i64 0, .int .i64 0, .int .i64 0, .int .i64 0, .int .i64 0, .int .i64 0, .int .i64 0, .int .i64 0, .int .i64 0, .int .i64 0, .int .i64 0, .bool false, .bool false, .string ⟨#[]⟩, .string ⟨#[]⟩, .int .i64 0, .int .i64 0, .int .i64 0, .int .i64 0, .string ⟨#[]⟩, .int .i64 0, .int .i64 0, .int .i64 0, .int .i64 0, .int .i64 0, .int .i64 0, .int .i64 0, .int .i64 0, .int .i64 0, .int .i64 0, .int .i64 0, .bool false, .bool false, .bool false, .slice none 0 0, .string ⟨#[]⟩] 56) = w0 at *
  clear hw0
  go_wp2_with fail
  refine (HED.out _).mono ?_
  rintro e w3 ⟨rfl, hb⟩
  have hbx := bel1 w3 (.cells #[.int .i64 x.a, .int .i64 x.b, .int .i64 x.k, .string x.d] 40)
  have hF4 := At.box w3 #[.int .i64 x.a, .int .i64 x.b, .int .i64 x.k, .string x.d] 40
  replace hb := bt hb hbx
  replace hl := bt hl hb
  replace hR := hR.later hb
  clear hb HED
  go_upto_region 2 with fail
  obtain ⟨B4, hB4⟩ : ∃ B, B = w3.heap.size := ⟨_, rfl⟩
  rw [← hB4] at hF4 ⊢
  generalize w3.alloc (.cells #[.int .i64 x.a, .int .i64 x.b, .int .i64 x.k, .string x.d] 40) = w4 at *
  clear hbx hB4
  have hlt0 : w.heap.size < w4.heap.size := hR.1
  go_upto_region 4 with fail
  go_cut [6, 7] from 8 (fun q y W => ∃ (B6 p : Nat), q = .pointer (some ⟨B6, 0, none⟩) ∧ y = .iface 103 (.pointer (some ⟨p, 0, none⟩)) ∧ Below w.heap.size w W ∧ At W w.heap.size PZ ∧ At W p (FailV l a c) ∧ w.heap.size < p)
  case first =>
    go_wp2_with (refine wpList_loadG 40 _ (by rfl) (by rfl) B4 0 (by rfl) _ _ hF4.range Tryz.underlying40 rfl size23 ?_)
    refine (HCO.out _ (hG.later hl)).mono ?_
    rintro e w5 ⟨p, rfl, hp, hP, hb⟩
    replace hl := bt hl hb
    replace hR := hR.later hb
    replace hF4 := hF4.later hb
    clear hb HCO
    have hX0 : At (w5.alloc (.cells #[.int .i64 0, .int .i64 0, .int .i64 0, .int .i64 0, .string ⟨#[]⟩, .int .i64 0, .int .i64 0, .int .i64 0, .int .i64 0, .int .i64 0, .int .i64 0, .int .i64 0, .int .i64 0, .int .i64 0, .int .i64 0, .int .i64 0, .bool false, .bool false, .string ⟨#[]⟩, .string ⟨#[]⟩, .int .i64 0, .int .i64 0, .int .i64 0, .int .i64 0, .string ⟨#[]⟩, .int .i64 0, .int .i64 0, .int .i64 0, .int .i64 0, .int .i64 0, .int .i64 0, .int .i64 0, .int .i64 0, .int .i64 0, .int .i64 0, .int .i64 0, .bool false, .bool false, .bool false, .slice none 0 0, .string ⟨#[]⟩] 56)) w5.heap.size PZ := At.box w5 #[.int .i64 0, .int .i64 0, .int .i64 0, .int .i64 0, .string ⟨#[]⟩, .int .i64 0, .int .i64 0, .int .i64 0, .int .i64 0, .int .i64 0, .int .i64 0, .int .i64 0, .int .i64 0, .int .i64 0, .int .i64 0, .int .i64 0, .bool false, .bool false, .string ⟨#[]⟩, .string ⟨#[]⟩, .int .i64 0, .int .i64 0, .int .i64 0, .int .i64 0, .string ⟨#[]⟩, .int .i64 0, .int .i64 0, .int .i64 0, .int .i64 0, .int .i64 0, .int .i64 0, .int .i64 0, .int .i64 0, .int .i64 0, .int .i64 0, .int .i64 0, .bool false, .bool false, .bool false, .slice none 0 0, .string ⟨#[]⟩] 56
    have hbx : Below w5.heap.size w5 ((w5.alloc (.cells #[.int .i64 0, .int .i64 0, .int .i64 0, .int .i64 0, .string ⟨#[]⟩, .int .i64 0, .int .i64 0, .int .i64 0, .int .i64 0, .int .i64 0, .int .i64 0, .int .i64 0, .int .i64 0, .int .i64 0, .int .i64 0, .int .i64 0, .bool false, .bool false, .string ⟨#[]⟩, .string ⟨#[]⟩, .int .i64 0, .int .i64 0, .int .i64 0, .int .i64 0, .string ⟨#[]⟩, .int .i64 0, .int .i64 0, .int .i64 0, .int .i64 0, .int .i64 0, .int .i64 0, .int .i64 0, .int .i64 0, .int .i64 0, .int .i64 0, .int .i64 0, .bool false, .bool false, .bool false, .slice none 0 0, .string ⟨#[]⟩] 56)).setCells w5.heap.size 0 PZ.toList) := Below.setCells (Nat.le_refl _) _ _ _ (bel1 w5 (.cells #[.int .i64 0, .int .i64 0, .int .i64 0, .int .i64 0, .string ⟨#[]⟩, .int .i64 0, .int .i64 0, .int .i64 0, .int .i64 0, .int .i64 0, .int .i64 0, .int .i64 0, .int .i64 0, .int .i64 0, .int .i64 0, .int .i64 0, .bool false, .bool false, .string ⟨#[]⟩, .string ⟨#[]⟩, .int .i64 0, .int .i64 0, .int .i64 0, .int .i64 0, .string ⟨#[]⟩, .int .i64 0, .int .i64 0, .int .i64 0, .int .i64 0, .int .i64 0, .int .i64 0, .int .i64 0, .int .i64 0, .int .i64 0, .int .i64 0, .int .i64 0, .bool false, .bool false, .bool false, .slice none 0 0, .string ⟨#[]⟩] 56))
    have hX : At ((w5.alloc (.cells #[.int .i64 0, .int .i64 0, .int .i64 0, .int .i64 0, .string ⟨#[]⟩, .int .i64 0, .int .i64 0, .int .i64 0, .int .i64 0, .int .i64 0, .int .i64 0, .int .i64 0, .int .i64 0, .int .i64 0, .int .i64 0, .int .i64 0, .bool false, .bool false, .string ⟨#[]⟩, .string ⟨#[]⟩, .int .i64 0, .int .i64 0, .int .i64 0, .int .i64 0, .string ⟨#[]⟩, .int .i64 0, .int .i64 0, .int .i64 0, .int .i64 0, .int .i64 0, .int .i64 0, .int .i64 0, .int .i64 0, .int .i64 0, .int .i64 0, .int .i64 0, .bool false, .bool false, .bool false, .slice none 0 0, .string ⟨#[]⟩] 56)).setCells w5.heap.size 0 PZ.toList) w5.heap.size PZ := At.whole (vs := PZ) hX0 rfl
    go_wp2_with (refine wpList_store_mid (by rfl) 56 _ _ (by rfl) (w5.heap.size) 0 PZ (by rfl) (by rfl) hX0.there size36 PZ_one ?_)
    go_wp2
    go_meet
    case rel => exact ⟨w5.heap.size, p, rfl, rfl, bt hl hbx, hR.later hbx, hP.later hbx, Nat.lt_of_lt_of_le hlt0 hp⟩
  case rest =>
  clear hl hR HCO
  clear hF4
  obtain ⟨B6, p, rfl, rfl, hl, hR, hP, hlt⟩ := hcut
  go_wp2_with (refine wpList_store_mid (by rfl) 56 _ _ (by rfl) (w.heap.size) 0 (PZ) (by rfl) (by rfl) hR.there size36 PZ_one ?_)
  go_wp2
  exact bodyPost_ret (v := .tuple #[.agg PZ, .iface 103 (.pointer (some ⟨p, 0, none⟩))]) (ret_cell41 (by rfl) (At.whole (vs := PZ) hR rfl) rfl (by rfl) (by rfl)) (by rfl) ⟨p, rfl, Nat.le_of_lt hlt, At.apart hP (Nat.ne_of_lt hlt) _ _, Below.setCells (Nat.le_refl _) _ _ _ hl⟩
set_option maxHeartbeats 8000000 in
theorem par_3 (st : ByteArray) (x : FrT) (z z' : Pd) (w : World)
    (hz' : Hid (z' = ({ z with fr := x } : Pd)))
    (hsg : Hid (z'.sg = z.sg))
    (hG : OrE w)
    (HED : Hid (∀ W, Calls Tryz.prog 29 #[.string st] W fun e w' => e = .returned (.tuple #[.agg #[.int .i64 x.a, .int .i64 x.b, .int .i64 x.k, .string x.d], .int .i64 0]) ∧ Below W.heap.size W w'))
    (HCO : Hid (∀ W, OrE W → Calls Tryz.prog 31 #[.agg #[.int .i64 x.a, .int .i64 x.b, .int .i64 x.k, .string x.d]] W fun e w' => ∃ v, e = .returned (.tuple #[.agg (z.v v), .nilIface]) ∧ RgA W.heap.size w' v z.sg.o.rs ∧ Below W.heap.size W w')) :
    Calls Tryz.prog 13 #[.string st] w fun e w' => ∃ v, e = .returned (.tuple #[.agg (Pd.v (z') v), .nilIface]) ∧ RgA w.heap.size w' v (z').sg.o.rs ∧ Below w.heap.size w w' := by
  have hR : At (w.alloc (.cells #[.int .i64 0, .int .i64 0, .int .i64 0, .int .i64 0, .string ⟨#[]⟩, .int .i64 0, .int .i64 0, .int .i64 0, .int .i64 0, .int .i64 0, .int .i64 0, .int .i64 0, .int .i64 0, .int .i64 0, .int .i64 0, .int .i64 0, .bool false, .bool false, .string ⟨#[]⟩, .string ⟨#[]⟩, .int .i64 0, .int .i64 0, .int .i64 0, .int .i64 0, .string ⟨#[]⟩, .int .i64 0, .int .i64 0, .int .i64 0, .int .i64 0, .int .i64 0, .int .i64 0, .int .i64 0, .int .i64 0, .int .i64 0, .int .i64 0, .int .i64 0, .bool false, .bool false, .bool false, .slice none 0 0, .string ⟨#[]⟩] 56)) w.heap.size PZ := At.box w #[.int .i64 0, .int .i64 0, .int .i64 0, .int .i64 0, .string ⟨#[]⟩, .int .i64 0, .int .i64 0, .int .i64 0, .int .i64 0, .int .i64 0, .int .i64 0, .int .i64 0, .int .i64 0, .int .i64 0, .int .i64 0, .int .i64 0, .bool false, .bool false, .string ⟨#[]⟩, .string ⟨#[]⟩, .int .i64 0, .int .i64 0, .int .i64 0, .int .i64 0, .string ⟨#[]⟩, .int .i64 0, .int .i64 0, .int .i64 0, .int .i64 0, .int .i64 0, .int .i64 0, .int .i64 0, .int .i64 0, .int .i64 0, .int .i64 0, .int .i64 0, .bool false, .bool false, .bool false, .slice none 0 0, .string ⟨#[]⟩] 56
  have hl := bel1 w (.cells #[.int .i64 0, .int .i64 0, .int .i64 0, .int .i64 0, .string ⟨#[]⟩, .int .i64 0, .int .i64 0, .int .i64 0, .int .i64 0, .int .i64 0, .int .i64 0, .int .i64 0, .int .i64 0, .int .i64 0, .int .i64 0, .int .i64 0, .bool false, .bool false, .string ⟨#[]⟩, .string ⟨#[]⟩, .int .i64 0, .int .i64 0, .int .i64 0, .int .i64 0, .string ⟨#[]⟩, .int .i64 0, .int .i64 0, .int .i64 0, .int .i64 0, .int .i64 0, .int .i64 0, .int .i64 0, .int .i64 0, .int .i64 0, .int .i64 0, .int .i64 0, .bool false, .bool false, .bool false, .slice none 0 0, .string ⟨#[]⟩] 56)
  have hz := buildZ
  go_enter Tryz.func13, Tryz.ntmps13
  go_upto_region 1 with fail
  generalize hw0 : w.alloc (.cells #[.int .i64 0, .int .i64 0, .int .i64 0, .int .i64 0, .string ⟨#[]⟩, .int .i64 0, .int .i64 0, .int .i64 0, .int .i64 0, .int .i64 0, .int .i64 0, .int .i64 0, .int .i64 0, .int .i64 0, .int .i64 0, .int .i64 0, .bool false, .bool false, .string ⟨#[]⟩, .string ⟨#[]⟩, .int .i64 0, .int .i64 0, .int .i64 0, .int .i64 0, .string ⟨#[]⟩, .int .i64 0, .int .i64 0, .int .i64 0, .int .i64 0, .int .i64 0, .int .i64 0, .int .i64 0, .int .i64 0, .int .i64 0, .int .i64 0, .int .i64 0, .bool false, .bool false, .bool false, .slice none 0 0, .string ⟨#[]⟩] 56) = w0 at *
  clear hw0
  go_wp2_with fail
  refine (HED.out _).mono ?_
  rintro e w3 ⟨rfl, hb⟩
  have hbx := bel1 w3 (.cells #[.int .i64 x.a, .int .i64 x.b, .int .i64 x.k, .string x.d] 40)
  have hF4 := At.box w3 #[.int .i64 x.a, .int .i64 x.b, .int .i64 x.k, .string x.d] 40
  replace hb := bt hb hbx
  replace hl := bt hl hb
  replace hR := hR.later hb
  clear hb HED
  go_upto_region 2 with fail
  obtain ⟨B4, hB4⟩ : ∃ B, B = w3.heap.size := ⟨_, rfl⟩
  rw [← hB4] at hF4 ⊢
  generalize w3.alloc (.cells #[.int .i64 x.a, .int .i64 x.b, .int .i64 x.k, .string x.d] 40) = w4 at *
  clear hbx hB4
  have hlt0 : w.heap.size < w4.heap.size := hR.1
  go_upto_region 4 with fail
  go_cut [6, 7] from 8 (fun q y W => ∃ (w5 : World) (a0 : Option Addr) (cap0 : Nat), q = .pointer (some ⟨w5.heap.size, 0, none⟩) ∧ y = .nilIface ∧ Below w.heap.size w w5 ∧ At w5 w.heap.size PZ ∧ At w5 B4 #[.int .i64 x.a, .int .i64 x.b, .int .i64 x.k, .string x.d] ∧ RgA w4.heap.size w5 (.slice a0 z.sg.o.rs.length cap0) z.sg.o.rs ∧ Below w5.heap.size w5 W ∧ At W w5.heap.size (z.v (.slice a0 z.sg.o.rs.length cap0)))
  case first =>
    go_wp2_with (refine wpList_loadG 40 _ (by rfl) (by rfl) B4 0 (by rfl) _ _ hF4.range Tryz.underlying40 rfl size23 ?_)
    refine (HCO.out _ (hG.later hl)).mono ?_
    rintro e w5 ⟨v, rfl, hvr, hb⟩
    obtain ⟨a0, cap0, hve, -⟩ := id hvr
    subst hve
    replace hl := bt hl hb
    replace hR := hR.later hb
    replace hF4 := hF4.later hb
    clear hb HCO
    have hX0 : At (w5.alloc (.cells #[.int .i64 0, .int .i64 0, .int .i64 0, .int .i64 0, .string ⟨#[]⟩, .int .i64 0, .int .i64 0, .int .i64 0, .int .i64 0, .int .i64 0, .int .i64 0, .int .i64 0, .int .i64 0, .int .i64 0, .int .i64 0, .int .i64 0, .bool false, .bool false, .string ⟨#[]⟩, .string ⟨#[]⟩, .int .i64 0, .int .i64 0, .int .i64 0, .int .i64 0, .string ⟨#[]⟩, .int .i64 0, .int .i64 0, .int .i64 0, .int .i64 0, .int .i64 0, .int .i64 0, .int .i64 0, .int .i64 0, .int .i64 0, .int .i64 0, .int .i64 0, .bool false, .bool false, .bool false, .slice none 0 0, .string ⟨#[]⟩] 56)) w5.heap.size PZ := At.box w5 #[.int .i64 0, .int .i64 0, .int .i64 0, .int .i64 0, .string ⟨#[]⟩, .int .i64 0, .int .i64 0, .int .i64 0, .int .i64 0, .int .i64 0, .int .i64 0, .int .i64 0, .int .i64 0, .int .i64 0, .int .i64 0, .int .i64 0, .bool false, .bool false, .string ⟨#[]⟩, .string ⟨#[]⟩, .int .i64 0, .int .i64 0, .int .i64 0, .int .i64 0, .string ⟨#[]⟩, .int .i64 0, .int .i64 0, .int .i64 0, .int .i64 0, .int .i64 0, .int .i64 0, .int .i64 0, .int .i64 0, .int .i64 0, .int .i64 0, .int .i64 0, .bool false, .bool false, .bool false, .slice none 0 0, .string ⟨#[]⟩] 56
    have hbx : Below w5.heap.size w5 ((w5.alloc (.cells #[.int .i64 0, .int .i64 0, .int .i64 0, .int .i64 0, .string ⟨#[]⟩, .int .i64 0, .int .i64 0, .int .i64 0, .int .i64 0, .int .i64 0, .int .i64 0, .int .i64 0, .int .i64 0, .int .i64 0, .int .i64 0, .int .i64 0, .bool false, .bool false, .string ⟨#[]⟩, .string ⟨#[]⟩, .int .i64 0, .int .i64 0, .int .i64 0, .int .i64 0, .string ⟨#[]⟩, .int .i64 0, .int .i64 0, .int .i64 0, .int .i64 0, .int .i64 0, .int .i64 0, .int .i64 0, .int .i64 0, .int .i64 0, .int .i64 0, .int .i64 0, .bool false, .bool false, .bool false, .slice none 0 0, .string ⟨#[]⟩] 56)).setCells w5.heap.size 0 (z.v (.slice a0 z.sg.o.rs.length cap0)).toList) := Below.setCells (Nat.le_refl _) _ _ _ (bel1 w5 (.cells #[.int .i64 0, .int .i64 0, .int .i64 0, .int .i64 0, .string ⟨#[]⟩, .int .i64 0, .int .i64 0, .int .i64 0, .int .i64 0, .int .i64 0, .int .i64 0, .int .i64 0, .int .i64 0, .int .i64 0, .int .i64 0, .int .i64 0, .bool false, .bool false, .string ⟨#[]⟩, .string ⟨#[]⟩, .int .i64 0, .int .i64 0, .int .i64 0, .int .i64 0, .string ⟨#[]⟩, .int .i64 0, .int .i64 0, .int .i64 0, .int .i64 0, .int .i64 0, .int .i64 0, .int .i64 0, .int .i64 0, .int .i64 0, .int .i64 0, .int .i64 0, .bool false, .bool false, .bool false, .slice none 0 0, .string ⟨#[]⟩] 56))
    have hX : At ((w5.alloc (.cells #[.int .i64 0, .int .i64 0, .int .i64 0, .int .i64 0, .string ⟨#[]⟩, .int .i64 0, .int .i64 0, .int .i64 0, .int .i64 0, .int .i64 0, .int .i64 0, .int .i64 0, .int .i64 0, .int .i64 0, .int .i64 0, .int .i64 0, .bool false, .bool false, .string ⟨#[]⟩, .string ⟨#[]⟩, .int .i64 0, .int .i64 0, .int .i64 0, .int .i64 0, .string ⟨#[]⟩, .int .i64 0, .int .i64 0, .int .i64 0, .int .i64 0, .int .i64 0, .int .i64 0, .int .i64 0, .int .i64 0, .int .i64 0, .int .i64 0, .int .i64 0, .bool false, .bool false, .bool false, .slice none 0 0, .string ⟨#[]⟩] 56)).setCells w5.heap.size 0 (z.v (.slice a0 z.sg.o.rs.length cap0)).toList) w5.heap.size (z.v (.slice a0 z.sg.o.rs.length cap0)) := At.whole (vs := (z.v (.slice a0 z.sg.o.rs.length cap0))) hX0 rfl
    go_wp2_with (refine wpList_store_mid (by rfl) 56 _ _ (by rfl) (w5.heap.size) 0 (z.v (.slice a0 z.sg.o.rs.length cap0)) (by rfl) (by rfl) hX0.there size36 (Pd.one _ rfl) ?_)
    go_wp2
    go_meet
    case rel => exact ⟨w5, a0, cap0, rfl, rfl, hl, hR, hF4, hvr, hbx, hX⟩
  case rest =>
  clear hl hR HCO
  clear hF4
  obtain ⟨w5, a0, cap0, rfl, rfl, hl5, hR5, hF5, hv5, hb5, hX⟩ := hcut
  have hF6 := hF5.later hb5
  have hb6 : Below w5.heap.size w5 (wc.setCells w5.heap.size 1 [.int .i64 x.a, .int .i64 x.b, .int .i64 x.k, .string x.d]) := Below.setCells (Nat.le_refl _) _ _ _ hb5
  have hX2 := hX.setFr x
  rw [← hz'.out] at hX2
  rw [← hsg.out] at hX2 hX hv5
  have hR6 := hR5.later hb6
  have hv6 := hv5.later hb6
  have hl6 := bt hl5 hb6
  clear hF5 hv5 hR5 hz
  go_upto_region 7 with fail
  go_upto_region 8 with (first | (refine wpList_loadG 40 _ (by rfl) (by rfl) B4 0 (by rfl) _ _ hF6.range Tryz.underlying40 rfl size23 ?_) | (refine wpList_store_mid (by rfl) 40 _ _ (by rfl) w5.heap.size 1 #[.int .i64 x.a, .int .i64 x.b, .int .i64 x.k, .string x.d] (by rfl) (by rfl) hX.mid4 size23 (by simp [Value.oneCell']) ?_))
  generalize wc.setCells w5.heap.size 1 [.int .i64 x.a, .int .i64 x.b, .int .i64 x.k, .string x.d] = w7 at *
  clear hX hF6 hb5
  go_wp2_with (first | (refine wpList_loadG 56 _ (by rfl) (by rfl) w5.heap.size 0 (by rfl) _ _ hX2.range Tryz.underlying56 rfl size36 ?_) | (refine wpList_store_mid (by rfl) 56 _ _ (by rfl) (w.heap.size) 0 (z'.v (.slice a0 z'.sg.o.rs.length cap0)) (by rfl) (by rfl) hR6.there size36 (Pd.one _ rfl) ?_))
  go_wp2
  exact bodyPost_ret (v := .tuple #[.agg (z'.v (.slice a0 z'.sg.o.rs.length cap0)), .nilIface]) (ret_cell41 (by rfl) (At.whole (vs := z'.v (.slice a0 z'.sg.o.rs.length cap0)) hR6 rfl) rfl (by rfl) (by rfl)) (by rfl) ⟨_, rfl, (hv6.setCells _ _ _ hlt0).mono (by omega), Below.setCells (Nat.le_refl _) _ _ _ hl6⟩
end Go.Proofs.YthjbmloemmggaaaGreatDoor

namespace Go.Proofs.YthjbmloemmggaaaGreatDoor
open Go.RowKit
set_option maxRecDepth 100000
set_option linter.unusedVariables false

theorem finG_err {b : ByteArray} {r : Option Op} {c : Int} (h : finG b r = .error c) : (c != 0) = true := by
  unfold finG at h
  cases r with
  | none => cases h; rfl
  | some o =>
    simp only at h
    split at h
    · cases h
    · cases h; rfl
theorem decG_err {f t : Int} {b : ByteArray} {c : Int} (h : decG f t b = .error c) : (c != 0) = true := by
  unfold decG at h
  split at h
  · split at h
    · split at h
      · exact finG_err h
      · cases h; rfl
    · cases h; rfl
  · cases h; rfl
theorem par_innT (x : FrT) (y : PkT) (z : Pd) (hm : Ip.mayP y.f y.t y.tl y.pr y.id y.fg y.mo y.op.size y.da.size = true) (hk : Eth.mayB x.a x.b 2048 (Ip.encP y.f y.t y.tl y.pr y.id y.fg y.mo y.dn y.op y.da).size = true) (HN : ShNil)
    (N1 : ∀ W, OrE W → Calls Tryz.prog 51 #[.agg #[.int .i64 y.f, .int .i64 y.t, .int .i64 y.tl, .int .i64 y.pr, .int .i64 y.id, .int .i64 y.fg, .bool y.mo, .bool y.dn, .string y.op, .string y.da]] W fun e w' => InnP (.ok z) W e w') :
    ∀ W, OrE W → Calls Tryz.prog 13 #[.string (Eth.encS x.a x.b 2048 (Ip.encP y.f y.t y.tl y.pr y.id y.fg y.mo y.dn y.op y.da))] W fun e w' => InnP (.ok { z with fr := (⟨x.a, x.b, 2048, (Ip.encP y.f y.t y.tl y.pr y.id y.fg y.mo y.dn y.op y.da)⟩ : FrT) }) W e w' := by
  have hz : (Ip.encP y.f y.t y.tl y.pr y.id y.fg y.mo y.dn y.op y.da).size ≤ 65535 := Ip.encP_le hm
  have hes : ((Eth.encS x.a x.b 2048 (Ip.encP y.f y.t y.tl y.pr y.id y.fg y.mo y.dn y.op y.da))).size = 14 + (Ip.encP y.f y.t y.tl y.pr y.id y.fg y.mo y.dn y.op y.da).size := Eth.enc_size _ _ _ _
  have hsm : ((Eth.encS x.a x.b 2048 (Ip.encP y.f y.t y.tl y.pr y.id y.fg y.mo y.dn y.op y.da))).size ≤ maxLen := by unfold maxLen; omega
  have E1 := fun W => Eth.dec_any (Eth.encS x.a x.b 2048 (Ip.encP y.f y.t y.tl y.pr y.id y.fg y.mo y.dn y.op y.da)) W hsm
  obtain ⟨e1, e2, e3, e4, e5⟩ := Eth.dec_of_enc hk
  rw [e1, e2, e3, e4, e5] at E1
  have I1 := fun W => Ip.dec_back hm ⟨#[]⟩ (dn := y.dn) W (by rw [app_nil]; omega)
  rw [app_nil] at I1
  exact fun W hW => par_3 (Eth.encS x.a x.b 2048 (Ip.encP y.f y.t y.tl y.pr y.id y.fg y.mo y.dn y.op y.da)) (⟨x.a, x.b, 2048, (Ip.encP y.f y.t y.tl y.pr y.id y.fg y.mo y.dn y.op y.da)⟩ : FrT) z _ W rfl rfl hW E1 (fun W hW => con_5 (⟨x.a, x.b, 2048, (Ip.encP y.f y.t y.tl y.pr y.id y.fg y.mo y.dn y.op y.da)⟩ : FrT) y z W hW HN rfl rfl I1 N1)
def PkOk (n : Int) (x : PkT) (r : Except (ByteArray × Int × Int) Pd) : Prop := (∀ q, r = .error q → 0 ≤ q.2.1 ∧ q.2.1 ≤ n ∧ (q.2.2 != 0) = true) ∧ (∀ z, r = .ok z → z.pk = x) ∧ (Ip.wholeB x.fg x.mo = false → ∃ z, r = .ok z)
theorem inn_pk (x : PkT) (hm : Ip.mayP x.f x.t x.tl x.pr x.id x.fg x.mo x.op.size x.da.size = true) (ho : x.op.size ≤ 1000) (hd : x.da.size ≤ 100000) : ∃ r, (∀ W, OrE W → Calls Tryz.prog 51 #[.agg #[.int .i64 x.f, .int .i64 x.t, .int .i64 x.tl, .int .i64 x.pr, .int .i64 x.id, .int .i64 x.fg, .bool x.mo, .bool x.dn, .string x.op, .string x.da]] W fun e w' => InnP r W e w') ∧ PkOk 2000 x r := by
  have h1 : x.op.size ≤ 1125899906842624 := by omega
  have h2 : x.da.size ≤ 1125899906842624 := by omega
  have e20 : IntKind.i64.wrap (20 + (x.op.size : Int)) = 20 + (x.op.size : Int) := by rw [IntKind.wrap_i64]; omega
  have ER : ∀ (l : ByteArray) (a c : Int), 0 ≤ a → a ≤ 20 + (x.op.size : Int) → (c != 0) = true → Ip.wholeB x.fg x.mo = true → (∀ W, OrE W → Calls Tryz.prog 51 #[.agg #[.int .i64 x.f, .int .i64 x.t, .int .i64 x.tl, .int .i64 x.pr, .int .i64 x.id, .int .i64 x.fg, .bool x.mo, .bool x.dn, .string x.op, .string x.da]] W fun e w' => InnP (.error (l, a, c)) W e w') → ∃ r, (∀ W, OrE W → Calls Tryz.prog 51 #[.agg #[.int .i64 x.f, .int .i64 x.t, .int .i64 x.tl, .int .i64 x.pr, .int .i64 x.id, .int .i64 x.fg, .bool x.mo, .bool x.dn, .string x.op, .string x.da]] W fun e w' => InnP r W e w') ∧ PkOk 2000 x r :=
    fun l a c h0 ha hc hw H => ⟨.error (l, a, c), H, fun q e => (by injection e with e; subst e; exact ⟨h0, by show a ≤ 2000; omega, hc⟩), fun z e => (by injection e), fun e => (by rw [hw] at e; cases e)⟩
  have OKK : ∀ (z : Pd), z.pk = x → (∀ W, OrE W → Calls Tryz.prog 51 #[.agg #[.int .i64 x.f, .int .i64 x.t, .int .i64 x.tl, .int .i64 x.pr, .int .i64 x.id, .int .i64 x.fg, .bool x.mo, .bool x.dn, .string x.op, .string x.da]] W fun e w' => InnP (.ok z) W e w') → ∃ r, (∀ W, OrE W → Calls Tryz.prog 51 #[.agg #[.int .i64 x.f, .int .i64 x.t, .int .i64 x.tl, .int .i64 x.pr, .int .i64 x.id, .int .i64 x.fg, .bool x.mo, .bool x.dn, .string x.op, .string x.da]] W fun e w' => InnP r W e w') ∧ PkOk 2000 x r :=
    fun z hk H => ⟨.ok z, H, fun q e => (by injection e), fun z' e => (by injection e with e; subst e; exact hk), fun _ => ⟨z, rfl⟩⟩
  have C1 := fun W => Ip.chk_t (dn := x.dn) hm W h1 h2
  have W1 := fun W => Ip.whl_any x.f x.t x.tl x.pr x.id x.fg x.mo x.dn x.op x.da W
  rcases Bool.eq_false_or_eq_true (Ip.wholeB x.fg x.mo) with hw | hw
  case inr =>
    rw [hw] at W1
    exact OKK (⟨2, FrT.zero, ArT.zero, x, IcT.zero, Sg.zero⟩ : Pd) rfl (fun W hW => inn_2 x W C1 W1)
  rw [hw] at W1
  rcases Bool.eq_false_or_eq_true (x.pr == 1) with q1 | q1
  · by_cases hz : (x.da.size : Int) < 8 ∨ 8 ≤ (x.da.size : Int) ∧ 65508 < (x.da.size : Int)
    · exact ER ⟨#[105, 99, 109, 112]⟩ (20 + (x.op.size : Int)) 60 (by omega) (by omega) rfl hw (fun W hW => inn_3 x IcT.zero 60 W C1 W1 e20 (by omega) q1 (fun W => Ip.idec_1 hz W h2) rfl)
    · have k8 : 8 ≤ (x.da.size : Int) := by omega
      have k9 : (x.da.size : Int) ≤ 65508 := by omega
      rcases Bool.eq_false_or_eq_true (sumS x.da == 0) with hs | hs
      · exact OKK (⟨3, FrT.zero, ArT.zero, x, ⟨Ip.iTy x.da, Ip.iCo x.da, Ip.iX x.da, Ip.iY x.da, Ip.iDa x.da⟩, Sg.zero⟩ : Pd) rfl (fun W hW => inn_4 x ⟨Ip.iTy x.da, Ip.iCo x.da, Ip.iX x.da, Ip.iY x.da, Ip.iDa x.da⟩ W C1 W1 e20 (by omega) q1 (fun W => Ip.idec_3 k8 k9 hs W))
      · exact ER ⟨#[105, 99, 109, 112]⟩ (20 + (x.op.size : Int)) 20 (by omega) (by omega) rfl hw (fun W hW => inn_3 x IcT.zero 20 W C1 W1 e20 (by omega) q1 (fun W => Ip.idec_2 k8 k9 hs W) rfl)
  · rcases Bool.eq_false_or_eq_true (x.pr == 6) with q6 | q6
    · have D1 := fun W (hW : OrE W) => decs_any x.f x.t x.da W hW.1 (by omega)
      cases hg : decG x.f x.t x.da with
      | error c =>
        rw [hg] at D1
        have hc : (c != 0) = true := decG_err hg
        exact ER ⟨#[116, 99, 112]⟩ (20 + (x.op.size : Int)) c (by omega) (by omega) hc hw (fun W hW => inn_6 x c W hW C1 W1 e20 (by omega) q1 q6 D1 hc)
      | ok s =>
        rw [hg] at D1
        exact OKK (⟨4, FrT.zero, ArT.zero, x, IcT.zero, s⟩ : Pd) rfl (fun W hW => inn_7 x s W hW C1 W1 e20 (by omega) q1 q6 D1)
    · exact ER ⟨#[105, 112]⟩ 0 90 (by omega) (by omega) rfl hw (fun W hW => inn_5 x W C1 W1 e20 (by omega) q1 q6)
theorem shNilT : ShNil := fun b W => shift_nil b W
theorem shFailT : ShFail 14 := fun W p l a c hG ha0 ha1 hA => shift_fail p l a c 14 W hG.2 hA ha0 ha1 (by omega) (by omega)
theorem par_pk (x : FrT) (y : PkT) (hm : Ip.mayP y.f y.t y.tl y.pr y.id y.fg y.mo y.op.size y.da.size = true) (ho : y.op.size ≤ 1000) (hd : y.da.size ≤ 100000) (hk : Eth.mayB x.a x.b 2048 (Ip.encP y.f y.t y.tl y.pr y.id y.fg y.mo y.dn y.op y.da).size = true) :
    ∃ r, (∀ W, OrE W → Calls Tryz.prog 13 #[.string (Eth.encS x.a x.b 2048 (Ip.encP y.f y.t y.tl y.pr y.id y.fg y.mo y.dn y.op y.da))] W fun e w' => InnP r W e w') ∧ PkOk 3000 y r := by
  obtain ⟨r, N1, hr⟩ := inn_pk y hm ho hd
  cases r with
  | ok z =>
    have := par_innT x y z hm hk shNilT N1
    have hz : z.pk = y := hr.2.1 z rfl
    exact ⟨_, this, fun q e => (by injection e), fun z' e => (by injection e with e; subst e; exact hz), fun _ => ⟨_, rfl⟩⟩
  | error t =>
    obtain ⟨l, a, c⟩ := t
    obtain ⟨ha0, ha1, hc⟩ := hr.1 _ rfl
    have hz : (Ip.encP y.f y.t y.tl y.pr y.id y.fg y.mo y.dn y.op y.da).size ≤ 65535 := Ip.encP_le hm
    have hes : ((Eth.encS x.a x.b 2048 (Ip.encP y.f y.t y.tl y.pr y.id y.fg y.mo y.dn y.op y.da))).size = 14 + (Ip.encP y.f y.t y.tl y.pr y.id y.fg y.mo y.dn y.op y.da).size := Eth.enc_size _ _ _ _
    have hsm : ((Eth.encS x.a x.b 2048 (Ip.encP y.f y.t y.tl y.pr y.id y.fg y.mo y.dn y.op y.da))).size ≤ maxLen := by unfold maxLen; omega
    have E1 := fun W => Eth.dec_any (Eth.encS x.a x.b 2048 (Ip.encP y.f y.t y.tl y.pr y.id y.fg y.mo y.dn y.op y.da)) W hsm
    obtain ⟨e1, e2, e3, e4, e5⟩ := Eth.dec_of_enc hk
    rw [e1, e2, e3, e4, e5] at E1
    have I1 := fun W => Ip.dec_back hm ⟨#[]⟩ (dn := y.dn) W (by rw [app_nil]; omega)
    rw [app_nil] at I1
    refine ⟨.error (l, a + 14, c), fun W hW => par_2 (Eth.encS x.a x.b 2048 (Ip.encP y.f y.t y.tl y.pr y.id y.fg y.mo y.dn y.op y.da)) (⟨x.a, x.b, 2048, (Ip.encP y.f y.t y.tl y.pr y.id y.fg y.mo y.dn y.op y.da)⟩ : FrT) l (a + 14) c W hW E1 (fun W hW => con_4 (⟨x.a, x.b, 2048, (Ip.encP y.f y.t y.tl y.pr y.id y.fg y.mo y.dn y.op y.da)⟩ : FrT) y l a c W hW shFailT rfl rfl I1 N1 ha0 (by simp only at ha1; omega)), ?_, fun z e => (by injection e), fun hw => ?_⟩
    · intro q e
      injection e with e
      subst e
      simp only at ha0 ha1 hc
      exact ⟨by show 0 ≤ a + 14; omega, by show a + 14 ≤ 3000; omega, hc⟩
    · obtain ⟨z, hz⟩ := hr.2.2 hw
      injection hz
end Go.Proofs.YthjbmloemmggaaaGreatDoor
