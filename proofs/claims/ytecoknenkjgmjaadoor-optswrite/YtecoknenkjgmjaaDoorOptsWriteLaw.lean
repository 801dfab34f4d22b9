/- For all options and any room: which may be, their bytes, how many these are, and what of them fits, is as the document has it; what is changed in what fits changes nothing of the options; and what came in reads as it did. Conditions: the card's own alone (the order of the kinds is what the program's text lays). -/
import Derived.Test.YtecoknenkjgmjaaDoorOg
import Derived.Test.YtecoknenkjgmjaaDoorOh
import Derived.Test.YtecoknenkjgmjaaDoorOj
import Derived.Test.YtecoknenkjgmjaaDoorGx
import Derived.Test.YtecoknenkjgmjaaDoorRc
import Derived.Deep.AppendLies
import Derived.Deep.QuietTactic
import Derived.BigQuiet
import Derived.WalkSmall
import Derived.Test.YtecoknenkjgmjaaDoorFr
import Derived.Test.YtecoknenkjgmjaaDoorTie
import Derived.Test.YtecoknenkjgmjaaDoorCards
import Derived.SevenTiedAt
import Derived.Stop.Joined
namespace Go.Proofs.YtecoknenkjgmjaaDoor.optsWrite
open Go.ChangeShapes Go.WideShapes Go.ChangeAt Go.RowKit
open Go.ChangeMaps (open_string)
set_option linter.unusedVariables false

-- WALK
theorem keepW {w W x : World} {p q : Nat} {A B : Array Value} {v v' : Value} {rs rs' : List (Int × Int)} (hb : Below W.heap.size W x) (h : Below w.heap.size w W ∧ At W p A ∧ At W q B ∧ Rgs W v rs ∧ Rgs W v' rs' ∧ Ord W) : Below w.heap.size w x ∧ At x p A ∧ At x q B ∧ Rgs x v rs ∧ Rgs x v' rs' ∧ Ord x :=
  ⟨bt h.1 hb, h.2.1.later hb, h.2.2.1.later hb, h.2.2.2.1.later hb, h.2.2.2.2.1.later hb, h.2.2.2.2.2.later hb⟩
theorem keepX {w W x : World} {p q B : Nat} {A A' : Array Value} {v v' : Value} {rs : List (Int × Int)} {n : Nat} {xs : List Value} (hb : Below W.heap.size W x) (h : Below w.heap.size w W ∧ At W p A ∧ At W q A' ∧ Rgs W v rs ∧ W.ownsRow B 35 2 v' n xs) : Below w.heap.size w x ∧ At x p A ∧ At x q A' ∧ Rgs x v rs ∧ x.ownsRow B 35 2 v' n xs :=
  ⟨bt h.1 hb, h.2.1.later hb, h.2.2.1.later hb, h.2.2.2.1.later hb, own_later h.2.2.2.2 hb⟩
set_option maxRecDepth 100000 in
set_option maxHeartbeats 8000000 in
theorem walk_c (m c t ec : Int) (sd ok sp : Bool) (a : Option Addr) (cap : Nat) (rs : List (Int × Int)) (most : Int) (E : ByteArray) (cd LL : Int) (mq cq tq ecq : Int) (sdq okq spq : Bool) (qs : List (Int × Int)) (w : World) (hG : Ord w) (hv : Rgs w (.slice a rs.length cap) rs) (hz : rs.length * 16 ≤ 140737488351232) (HQ : Hid (qs.length ≤ 17592186044416))
    (HEN : Hid (∀ W u, Rgs W u rs → Ord W → Calls Tryd.prog 10 #[.agg #[.int .i64 m, .int .i64 c, .int .i64 t, .int .i64 ec, .bool sd, .bool ok, .bool sp, u]] W fun e w' => e = .returned (.tuple #[.string E, .int .i64 cd]) ∧ Below W.heap.size W w'))
    (HRE : Hid (∀ W u, Rgs W u rs → Calls Tryd.prog 11 #[.agg #[.int .i64 m, .int .i64 c, .int .i64 t, .int .i64 ec, .bool sd, .bool ok, .bool sp, u]] W fun e w' => e = .returned (.tuple #[.string E, .int .i64 cd]) ∧ Below W.heap.size W w'))
    (HCH : Hid (∀ W u, Rgs W u rs → Ord W → Calls Tryd.prog 12 #[.agg #[.int .i64 m, .int .i64 c, .int .i64 t, .int .i64 ec, .bool sd, .bool ok, .bool sp, u]] W fun e w' => e = .returned (.int .i64 cd) ∧ Below W.heap.size W w'))
    (HRC : Hid (∀ W u, Rgs W u rs → Calls Tryd.prog 13 #[.agg #[.int .i64 m, .int .i64 c, .int .i64 t, .int .i64 ec, .bool sd, .bool ok, .bool sp, u]] W fun e w' => e = .returned (.int .i64 cd) ∧ Below W.heap.size W w'))
    (HLO : Hid (∀ W u, Rgs W u rs → Ord W → Calls Tryd.prog 14 #[.agg #[.int .i64 m, .int .i64 c, .int .i64 t, .int .i64 ec, .bool sd, .bool ok, .bool sp, u]] W fun e w' => e = .returned (.int .i64 LL) ∧ Below W.heap.size W w'))
    (HRL : Hid (∀ W u, Rgs W u rs → Calls Tryd.prog 15 #[.agg #[.int .i64 m, .int .i64 c, .int .i64 t, .int .i64 ec, .bool sd, .bool ok, .bool sp, u]] W fun e w' => e = .returned (.int .i64 LL) ∧ Below W.heap.size W w'))
    (HFI : Hid (∀ W u, Rgs W u rs → Ord W → Calls Tryd.prog 17 #[.agg #[.int .i64 m, .int .i64 c, .int .i64 t, .int .i64 ec, .bool sd, .bool ok, .bool sp, u], .int .i64 most] W fun e w' => ∃ v', e = .returned (.agg #[.int .i64 mq, .int .i64 cq, .int .i64 tq, .int .i64 ecq, .bool sdq, .bool okq, .bool spq, v']) ∧ w'.ownsRow W.heap.size 35 2 v' qs.length (flatR qs) ∧ Below W.heap.size W w'))
    (HRF : Hid (∀ W u, Rgs W u rs → Calls Tryd.prog 19 #[.agg #[.int .i64 m, .int .i64 c, .int .i64 t, .int .i64 ec, .bool sd, .bool ok, .bool sp, u], .int .i64 most] W fun e w' => ∃ v', e = .returned (.agg #[.int .i64 mq, .int .i64 cq, .int .i64 tq, .int .i64 ecq, .bool sdq, .bool okq, .bool spq, v']) ∧ Rgs w' v' qs ∧ Below W.heap.size W w')) :
    Calls Tryd.prog 3 #[.agg #[.int .i64 m, .int .i64 c, .int .i64 t, .int .i64 ec, .bool sd, .bool ok, .bool sp, (.slice a rs.length cap)], .int .i64 most] w fun e w' => e = .returned (.bool true) ∧ Below w.heap.size w w' := by
  have HN : Hid (rs.length ≤ 17592186044416) := by show _ ≤ _; omega
  have hA := At.box w #[.int .i64 m, .int .i64 c, .int .i64 t, .int .i64 ec, .bool sd, .bool ok, .bool sp, (.slice a rs.length cap)] 24
  have hl := bel1 w (.cells #[.int .i64 m, .int .i64 c, .int .i64 t, .int .i64 ec, .bool sd, .bool ok, .bool sp, (.slice a rs.length cap)] 24)
  obtain ⟨⟨c0, c1, c2, c3, c4, c5, c6, c7⟩, -, -⟩ := hA.eight
  go_enter Tryd.func3, Tryd.ntmps3
  go_wp2_with fail
  refine (copied_any m c t ec sd ok sp (.slice a rs.length cap) rs _ (hv.later hl) hz).mono ?_
  rintro en wo ⟨v1, rfl, ho1, hb⟩
  obtain ⟨a1, cap1, hv1e, -, -⟩ := own_slice ho1
  subst hv1e
  have hbx := bel1 wo (.cells #[.int .i64 m, .int .i64 c, .int .i64 t, .int .i64 ec, .bool sd, .bool ok, .bool sp, (.slice a1 rs.length cap1)] 24)
  have hO := At.box wo #[.int .i64 m, .int .i64 c, .int .i64 t, .int .i64 ec, .bool sd, .bool ok, .bool sp, (.slice a1 rs.length cap1)] 24
  have hr1 : Rgs (wo.alloc (.cells #[.int .i64 m, .int .i64 c, .int .i64 t, .int .i64 ec, .bool sd, .bool ok, .bool sp, (.slice a1 rs.length cap1)] 24)) (.slice a1 rs.length cap1) rs := (Rgs.of_own ho1).later hbx
  replace hl := bt (bt hl hb) hbx
  replace hA := hA.later (bt hb hbx)
  clear hb hbx ho1 c0 c1 c2 c3 c4 c5 c6 c7
  obtain ⟨⟨c0, c1, c2, c3, c4, c5, c6, c7⟩, -, -⟩ := hA.eight
  obtain ⟨⟨d0, d1, d2, d3, d4, d5, d6, d7⟩, -, -⟩ := hO.eight
  go_wp2_with fail
  refine (HEN.out _ _ hr1 (hG.later hl)).mono ?_
  rintro en w2 ⟨rfl, hb⟩
  replace hl := bt hl hb
  replace hA := hA.later hb
  replace hO := hO.later hb
  replace hr1 := hr1.later hb
  clear hb c0 c1 c2 c3 c4 c5 c6 c7 d0 d1 d2 d3 d4 d5 d6 d7
  obtain ⟨⟨c0, c1, c2, c3, c4, c5, c6, c7⟩, -, -⟩ := hA.eight
  obtain ⟨⟨d0, d1, d2, d3, d4, d5, d6, d7⟩, -, -⟩ := hO.eight
  go_wp2_with fail
  refine (HRE.out _ _ (hv.later hl)).mono ?_
  rintro en w3 ⟨rfl, hb⟩
  replace hl := bt hl hb
  replace hA := hA.later hb
  replace hO := hO.later hb
  replace hr1 := hr1.later hb
  clear hb c0 c1 c2 c3 c4 c5 c6 c7 d0 d1 d2 d3 d4 d5 d6 d7
  obtain ⟨⟨c0, c1, c2, c3, c4, c5, c6, c7⟩, -, -⟩ := hA.eight
  obtain ⟨⟨d0, d1, d2, d3, d4, d5, d6, d7⟩, -, -⟩ := hO.eight
  go_upto_region 4 with fail
  have hd : Below w3.heap.size w3 w3.drew := (Below.refl _ _).drew
  have HSD : Hid (Below w.heap.size w w3.drew ∧ At w3.drew w.heap.size #[.int .i64 m, .int .i64 c, .int .i64 t, .int .i64 ec, .bool sd, .bool ok, .bool sp, (.slice a rs.length cap)] ∧ At w3.drew wo.heap.size #[.int .i64 m, .int .i64 c, .int .i64 t, .int .i64 ec, .bool sd, .bool ok, .bool sp, (.slice a1 rs.length cap1)] ∧ Rgs w3.drew (.slice a rs.length cap) rs ∧ Rgs w3.drew (.slice a1 rs.length cap1) rs ∧ Ord w3.drew) := keepW hd ⟨hl, hA, hO, hv.later hl, hr1, hG.later hl⟩
  clear c0 c1 c2 c3 c4 c5 c6 c7 d0 d1 d2 d3 d4 d5 d6 d7 hl hA hO hr1 hv hG hd hz HEN HRE
  go_cut [52] from 13 (fun s W => s = .bool false ∧ Below w.heap.size w W ∧ At W w.heap.size #[.int .i64 m, .int .i64 c, .int .i64 t, .int .i64 ec, .bool sd, .bool ok, .bool sp, (.slice a rs.length cap)] ∧ At W wo.heap.size #[.int .i64 m, .int .i64 c, .int .i64 t, .int .i64 ec, .bool sd, .bool ok, .bool sp, (.slice a1 rs.length cap1)] ∧ Rgs W (.slice a rs.length cap) rs ∧ Rgs W (.slice a1 rs.length cap1) rs ∧ Ord W)
  case first =>
    clear HFI HRF HQ HN
    refine wp_region_any (by kernel_rfl) ?_
    refine region_facts (fun W => Below w.heap.size w W ∧ At W w.heap.size #[.int .i64 m, .int .i64 c, .int .i64 t, .int .i64 ec, .bool sd, .bool ok, .bool sp, (.slice a rs.length cap)] ∧ At W wo.heap.size #[.int .i64 m, .int .i64 c, .int .i64 t, .int .i64 ec, .bool sd, .bool ok, .bool sp, (.slice a1 rs.length cap1)] ∧ Rgs W (.slice a rs.length cap) rs ∧ Rgs W (.slice a1 rs.length cap1) rs ∧ Ord W) (GE (fun i => match i with | 0 => .bool false | 1 => .string E | 2 => .string E | 3 => .bool false | 4 => .bool false | 5 => .bool false | 6 => .int .i64 cd | 7 => .int .i64 cd | 8 => .bool false | 9 => .bool false | 10 => .bool false | 11 => .agg #[.int .i64 m, .int .i64 c, .int .i64 t, .int .i64 ec, .bool sd, .bool ok, .bool sp, (.slice a1 rs.length cap1)] | 12 => .int .i64 cd | 13 => .agg #[.int .i64 m, .int .i64 c, .int .i64 t, .int .i64 ec, .bool sd, .bool ok, .bool sp, (.slice a rs.length cap)] | 14 => .int .i64 cd | 15 => .bool false | 16 => .bool false | 17 => .bool false | 18 => .agg #[.int .i64 m, .int .i64 c, .int .i64 t, .int .i64 ec, .bool sd, .bool ok, .bool sp, (.slice a1 rs.length cap1)] | 19 => .int .i64 LL | 20 => .agg #[.int .i64 m, .int .i64 c, .int .i64 t, .int .i64 ec, .bool sd, .bool ok, .bool sp, (.slice a rs.length cap)] | 21 => .int .i64 LL | 22 => .bool false | 23 => .bool false | 24 => .bool false | 25 => .bool true | 26 => .bool false | 27 => .bool false | _ => undef) (fun _ => none)) (n := 79) (by kernel_rfl) rfl (by kernel_rfl) (GE_later _ _ (fun _ _ h => by cases h)) ?_ ?_ HSD.out (Nat.le_refl _)
    · skip
      refine ⟨?_, ?_, ?_, ?_, ?_, ?_, ?_, ?_, ?_, ?_, ?_, ?_, ?_, ?_, ?_, ?_, ?_, ?_, ?_, ?_, ?_, ?_, ?_, ?_, ?_, ?_, ?_, ?_, trivial⟩
      · intro ac w1 hS hT hB hD K hK
        rw [if_pos (by rfl)]
        clear hB hD hT
        go_simp
        exact hK _ _ hS (Below.refl _ _) rfl
      · intro ac w1 hS hT hB hD K hK
        have g25 : ac.tmps.getD 25 undef = .bool false := hD ⟨0, .guard⟩ (by simp) rfl _ 25 rfl rfl
        rw [if_pos (want_t (j := 0) (d := 25) rfl rfl g25)]
        clear g25
        have d6 : ac.tmps.getD 6 undef = .string E := hB 6 (by kernel_rfl)
        clear hB hD hT
        go_simp
        exact hK _ _ hS (Below.refl _ _) rfl
      · intro ac w1 hS hT hB hD K hK
        have g25 : ac.tmps.getD 25 undef = .bool false := hD ⟨0, .guard⟩ (by simp) rfl _ 25 rfl rfl
        rw [if_pos (want_t (j := 0) (d := 25) rfl rfl g25)]
        clear g25
        have d8 : ac.tmps.getD 8 undef = .string E := hB 8 (by kernel_rfl)
        clear hB hD hT
        go_simp
        exact hK _ _ hS (Below.refl _ _) rfl
      · intro ac w1 hS hT hB hD K hK
        have g25 : ac.tmps.getD 25 undef = .bool false := hD ⟨0, .guard⟩ (by simp) rfl _ 25 rfl rfl
        rw [if_pos (want_t (j := 0) (d := 25) rfl rfl g25)]
        clear g25
        have d26 : ac.tmps.getD 26 undef = .string E := hD ⟨1, .data⟩ (by simp) rfl _ 26 rfl rfl
        have d27 : ac.tmps.getD 27 undef = .string E := hD ⟨2, .data⟩ (by simp) rfl _ 27 rfl rfl
        clear hB hD hT
        go_simp
        exact hK _ _ hS (Below.refl _ _) rfl
      · intro ac w1 hS hT hB hD K hK
        rw [if_pos (by rfl)]
        have d25 : ac.tmps.getD 25 undef = .bool false := hD ⟨0, .data⟩ (by simp) rfl _ 25 rfl rfl
        have d28 : ac.tmps.getD 28 undef = .bool false := hD ⟨3, .data⟩ (by simp) rfl _ 28 rfl rfl
        clear hB hD hT
        go_simp
        exact hK _ _ hS (Below.refl _ _) rfl
      · intro ac w1 hS hT hB hD K hK
        rw [if_pos (by rfl)]
        have d29 : ac.tmps.getD 29 undef = .bool false := hD ⟨4, .data⟩ (by simp) rfl _ 29 rfl rfl
        clear hB hD hT
        go_simp
        exact hK _ _ hS (Below.refl _ _) rfl
      · intro ac w1 hS hT hB hD K hK
        have g30 : ac.tmps.getD 30 undef = .bool false := hD ⟨5, .guard⟩ (by simp) rfl _ 30 rfl rfl
        rw [if_pos (want_t (j := 5) (d := 30) rfl rfl g30)]
        clear g30
        have d7 : ac.tmps.getD 7 undef = .int .i64 cd := hB 7 (by kernel_rfl)
        clear hB hD hT
        go_simp
        exact hK _ _ hS (Below.refl _ _) rfl
      · intro ac w1 hS hT hB hD K hK
        have g30 : ac.tmps.getD 30 undef = .bool false := hD ⟨5, .guard⟩ (by simp) rfl _ 30 rfl rfl
        rw [if_pos (want_t (j := 5) (d := 30) rfl rfl g30)]
        clear g30
        have d9 : ac.tmps.getD 9 undef = .int .i64 cd := hB 9 (by kernel_rfl)
        clear hB hD hT
        go_simp
        exact hK _ _ hS (Below.refl _ _) rfl
      · intro ac w1 hS hT hB hD K hK
        have g30 : ac.tmps.getD 30 undef = .bool false := hD ⟨5, .guard⟩ (by simp) rfl _ 30 rfl rfl
        rw [if_pos (want_t (j := 5) (d := 30) rfl rfl g30)]
        clear g30
        have d31 : ac.tmps.getD 31 undef = .int .i64 cd := hD ⟨6, .data⟩ (by simp) rfl _ 31 rfl rfl
        have d32 : ac.tmps.getD 32 undef = .int .i64 cd := hD ⟨7, .data⟩ (by simp) rfl _ 32 rfl rfl
        clear hB hD hT
        go_simp
        exact hK _ _ hS (Below.refl _ _) rfl
      · intro ac w1 hS hT hB hD K hK
        rw [if_pos (by rfl)]
        have d30 : ac.tmps.getD 30 undef = .bool false := hD ⟨5, .data⟩ (by simp) rfl _ 30 rfl rfl
        have d33 : ac.tmps.getD 33 undef = .bool false := hD ⟨8, .data⟩ (by simp) rfl _ 33 rfl rfl
        clear hB hD hT
        go_simp
        exact hK _ _ hS (Below.refl _ _) rfl
      · intro ac w1 hS hT hB hD K hK
        rw [if_pos (by rfl)]
        have d34 : ac.tmps.getD 34 undef = .bool false := hD ⟨9, .data⟩ (by simp) rfl _ 34 rfl rfl
        clear hB hD hT
        go_simp
        exact hK _ _ hS (Below.refl _ _) rfl
      · intro ac w1 hS hT hB hD K hK
        have g35 : ac.tmps.getD 35 undef = .bool false := hD ⟨10, .guard⟩ (by simp) rfl _ 35 rfl rfl
        rw [if_pos (want_t (j := 10) (d := 35) rfl rfl g35)]
        clear g35
        have d5 : ac.tmps.getD 5 undef = .pointer (some ⟨wo.heap.size, 0, none⟩) := hB 5 (by kernel_rfl)
        clear hB hD hT
        have hc := hS.2.2.1.eight.1
        go_simp
        exact hK _ _ hS (Below.refl _ _) rfl
      · intro ac w1 hS hT hB hD K hK
        have g35 : ac.tmps.getD 35 undef = .bool false := hD ⟨10, .guard⟩ (by simp) rfl _ 35 rfl rfl
        rw [if_pos (want_t (j := 10) (d := 35) rfl rfl g35)]
        clear g35
        have d36 : ac.tmps.getD 36 undef = .agg #[.int .i64 m, .int .i64 c, .int .i64 t, .int .i64 ec, .bool sd, .bool ok, .bool sp, (.slice a1 rs.length cap1)] := hD ⟨11, .data⟩ (by simp) rfl _ 36 rfl rfl
        clear hB hD hT
        go_simp
        refine (HCH.out _ _ hS.2.2.2.2.1 hS.2.2.2.2.2).mono ?_
        rintro e w' ⟨rfl, hb⟩
        exact hK _ _ (keepW hb hS) hb rfl
      · intro ac w1 hS hT hB hD K hK
        have g35 : ac.tmps.getD 35 undef = .bool false := hD ⟨10, .guard⟩ (by simp) rfl _ 35 rfl rfl
        rw [if_pos (want_t (j := 10) (d := 35) rfl rfl g35)]
        clear g35
        have d2 : ac.tmps.getD 2 undef = .pointer (some ⟨w.heap.size, 0, none⟩) := hB 2 (by kernel_rfl)
        clear hB hD hT
        have hc := hS.2.1.eight.1
        go_simp
        exact hK _ _ hS (Below.refl _ _) rfl
      · intro ac w1 hS hT hB hD K hK
        have g35 : ac.tmps.getD 35 undef = .bool false := hD ⟨10, .guard⟩ (by simp) rfl _ 35 rfl rfl
        rw [if_pos (want_t (j := 10) (d := 35) rfl rfl g35)]
        clear g35
        have d38 : ac.tmps.getD 38 undef = .agg #[.int .i64 m, .int .i64 c, .int .i64 t, .int .i64 ec, .bool sd, .bool ok, .bool sp, (.slice a rs.length cap)] := hD ⟨13, .data⟩ (by simp) rfl _ 38 rfl rfl
        clear hB hD hT
        go_simp
        refine (HRC.out _ _ hS.2.2.2.1).mono ?_
        rintro e w' ⟨rfl, hb⟩
        exact hK _ _ (keepW hb hS) hb rfl
      · intro ac w1 hS hT hB hD K hK
        have g35 : ac.tmps.getD 35 undef = .bool false := hD ⟨10, .guard⟩ (by simp) rfl _ 35 rfl rfl
        rw [if_pos (want_t (j := 10) (d := 35) rfl rfl g35)]
        clear g35
        have d37 : ac.tmps.getD 37 undef = .int .i64 cd := hD ⟨12, .data⟩ (by simp) rfl _ 37 rfl rfl
        have d39 : ac.tmps.getD 39 undef = .int .i64 cd := hD ⟨14, .data⟩ (by simp) rfl _ 39 rfl rfl
        clear hB hD hT
        go_simp
        exact hK _ _ hS (Below.refl _ _) rfl
      · intro ac w1 hS hT hB hD K hK
        rw [if_pos (by rfl)]
        have d35 : ac.tmps.getD 35 undef = .bool false := hD ⟨10, .data⟩ (by simp) rfl _ 35 rfl rfl
        have d40 : ac.tmps.getD 40 undef = .bool false := hD ⟨15, .data⟩ (by simp) rfl _ 40 rfl rfl
        clear hB hD hT
        go_simp
        exact hK _ _ hS (Below.refl _ _) rfl
      · intro ac w1 hS hT hB hD K hK
        rw [if_pos (by rfl)]
        have d41 : ac.tmps.getD 41 undef = .bool false := hD ⟨16, .data⟩ (by simp) rfl _ 41 rfl rfl
        clear hB hD hT
        go_simp
        exact hK _ _ hS (Below.refl _ _) rfl
      · intro ac w1 hS hT hB hD K hK
        have g42 : ac.tmps.getD 42 undef = .bool false := hD ⟨17, .guard⟩ (by simp) rfl _ 42 rfl rfl
        rw [if_pos (want_t (j := 17) (d := 42) rfl rfl g42)]
        clear g42
        have d5 : ac.tmps.getD 5 undef = .pointer (some ⟨wo.heap.size, 0, none⟩) := hB 5 (by kernel_rfl)
        clear hB hD hT
        have hc := hS.2.2.1.eight.1
        go_simp
        exact hK _ _ hS (Below.refl _ _) rfl
      · intro ac w1 hS hT hB hD K hK
        have g42 : ac.tmps.getD 42 undef = .bool false := hD ⟨17, .guard⟩ (by simp) rfl _ 42 rfl rfl
        rw [if_pos (want_t (j := 17) (d := 42) rfl rfl g42)]
        clear g42
        have d43 : ac.tmps.getD 43 undef = .agg #[.int .i64 m, .int .i64 c, .int .i64 t, .int .i64 ec, .bool sd, .bool ok, .bool sp, (.slice a1 rs.length cap1)] := hD ⟨18, .data⟩ (by simp) rfl _ 43 rfl rfl
        clear hB hD hT
        go_simp
        refine (HLO.out _ _ hS.2.2.2.2.1 hS.2.2.2.2.2).mono ?_
        rintro e w' ⟨rfl, hb⟩
        exact hK _ _ (keepW hb hS) hb rfl
      · intro ac w1 hS hT hB hD K hK
        have g42 : ac.tmps.getD 42 undef = .bool false := hD ⟨17, .guard⟩ (by simp) rfl _ 42 rfl rfl
        rw [if_pos (want_t (j := 17) (d := 42) rfl rfl g42)]
        clear g42
        have d2 : ac.tmps.getD 2 undef = .pointer (some ⟨w.heap.size, 0, none⟩) := hB 2 (by kernel_rfl)
        clear hB hD hT
        have hc := hS.2.1.eight.1
        go_simp
        exact hK _ _ hS (Below.refl _ _) rfl
      · intro ac w1 hS hT hB hD K hK
        have g42 : ac.tmps.getD 42 undef = .bool false := hD ⟨17, .guard⟩ (by simp) rfl _ 42 rfl rfl
        rw [if_pos (want_t (j := 17) (d := 42) rfl rfl g42)]
        clear g42
        have d45 : ac.tmps.getD 45 undef = .agg #[.int .i64 m, .int .i64 c, .int .i64 t, .int .i64 ec, .bool sd, .bool ok, .bool sp, (.slice a rs.length cap)] := hD ⟨20, .data⟩ (by simp) rfl _ 45 rfl rfl
        clear hB hD hT
        go_simp
        refine (HRL.out _ _ hS.2.2.2.1).mono ?_
        rintro e w' ⟨rfl, hb⟩
        exact hK _ _ (keepW hb hS) hb rfl
      · intro ac w1 hS hT hB hD K hK
        have g42 : ac.tmps.getD 42 undef = .bool false := hD ⟨17, .guard⟩ (by simp) rfl _ 42 rfl rfl
        rw [if_pos (want_t (j := 17) (d := 42) rfl rfl g42)]
        clear g42
        have d44 : ac.tmps.getD 44 undef = .int .i64 LL := hD ⟨19, .data⟩ (by simp) rfl _ 44 rfl rfl
        have d46 : ac.tmps.getD 46 undef = .int .i64 LL := hD ⟨21, .data⟩ (by simp) rfl _ 46 rfl rfl
        clear hB hD hT
        go_simp
        exact hK _ _ hS (Below.refl _ _) rfl
      · intro ac w1 hS hT hB hD K hK
        rw [if_pos (by rfl)]
        have d42 : ac.tmps.getD 42 undef = .bool false := hD ⟨17, .data⟩ (by simp) rfl _ 42 rfl rfl
        have d47 : ac.tmps.getD 47 undef = .bool false := hD ⟨22, .data⟩ (by simp) rfl _ 47 rfl rfl
        clear hB hD hT
        go_simp
        exact hK _ _ hS (Below.refl _ _) rfl
      · intro ac w1 hS hT hB hD K hK
        rw [if_pos (by rfl)]
        have d48 : ac.tmps.getD 48 undef = .bool false := hD ⟨23, .data⟩ (by simp) rfl _ 48 rfl rfl
        clear hB hD hT
        go_simp
        exact hK _ _ hS (Below.refl _ _) rfl
      · intro ac w1 hS hT hB hD K hK
        have g49 : ac.tmps.getD 49 undef = .bool false := hD ⟨24, .guard⟩ (by simp) rfl _ 49 rfl rfl
        rw [if_pos (want_t (j := 24) (d := 49) rfl rfl g49)]
        clear g49
        clear hB hD hT
        go_simp
        refine (works_any _ hS.2.2.2.2.2).mono ?_
        rintro e w' ⟨rfl, hb⟩
        exact hK _ _ (keepW hb hS) hb rfl
      · intro ac w1 hS hT hB hD K hK
        have g49 : ac.tmps.getD 49 undef = .bool false := hD ⟨24, .guard⟩ (by simp) rfl _ 49 rfl rfl
        rw [if_pos (want_t (j := 24) (d := 49) rfl rfl g49)]
        clear g49
        have d50 : ac.tmps.getD 50 undef = .bool true := hD ⟨25, .data⟩ (by simp) rfl _ 50 rfl rfl
        clear hB hD hT
        go_simp
        exact hK _ _ hS (Below.refl _ _) rfl
      · intro ac w1 hS hT hB hD K hK
        rw [if_pos (by rfl)]
        have d49 : ac.tmps.getD 49 undef = .bool false := hD ⟨24, .data⟩ (by simp) rfl _ 49 rfl rfl
        have d51 : ac.tmps.getD 51 undef = .bool false := hD ⟨26, .data⟩ (by simp) rfl _ 51 rfl rfl
        clear hB hD hT
        go_simp
        exact hK _ _ hS (Below.refl _ _) rfl
    · intro a1 w9 hS hT hdf hB hF
      obtain ⟨⟨l⟩, df⟩ := a1
      match l, hT with
      | x0 :: x1 :: x2 :: x3 :: x4 :: x5 :: x6 :: x7 :: x8 :: x9 :: x10 :: x11 :: x12 :: x13 :: x14 :: x15 :: x16 :: x17 :: x18 :: x19 :: x20 :: x21 :: x22 :: x23 :: x24 :: x25 :: x26 :: x27 :: x28 :: x29 :: x30 :: x31 :: x32 :: x33 :: x34 :: x35 :: x36 :: x37 :: x38 :: x39 :: x40 :: x41 :: x42 :: x43 :: x44 :: x45 :: x46 :: x47 :: x48 :: x49 :: x50 :: x51 :: x52 :: x53 :: x54 :: x55 :: x56 :: x57 :: x58 :: x59 :: x60 :: x61 :: x62 :: x63 :: x64 :: x65 :: x66 :: x67 :: x68 :: x69 :: x70 :: x71 :: x72 :: x73 :: x74 :: x75 :: x76 :: x77 :: x78 :: [], _ =>
        have s52 : x52 = .bool false := hF 27 _ 52 rfl rfl
        have s0 : x0 = .agg #[.int .i64 m, .int .i64 c, .int .i64 t, .int .i64 ec, .bool sd, .bool ok, .bool sp, (.slice a rs.length cap)] := hB 0 (by kernel_rfl)
        have s1 : x1 = .int .i64 most := hB 1 (by kernel_rfl)
        have s2 : x2 = .pointer (some ⟨w.heap.size, 0, none⟩) := hB 2 (by kernel_rfl)
        have s3 : x3 = undef := hB 3 (by kernel_rfl)
        have s4 : x4 = .bool false := hB 4 (by kernel_rfl)
        have s5 : x5 = .pointer (some ⟨wo.heap.size, 0, none⟩) := hB 5 (by kernel_rfl)
        have s6 : x6 = .string E := hB 6 (by kernel_rfl)
        have s7 : x7 = .int .i64 cd := hB 7 (by kernel_rfl)
        have s8 : x8 = .string E := hB 8 (by kernel_rfl)
        have s9 : x9 = .int .i64 cd := hB 9 (by kernel_rfl)
        have s10 : x10 = undef := hB 10 (by kernel_rfl)
        have s11 : x11 = undef := hB 11 (by kernel_rfl)
        have s12 : x12 = undef := hB 12 (by kernel_rfl)
        have sdf : df = [] := hdf
        subst s52 s0 s1 s2 s3 s4 s5 s6 s7 s8 s9 s10 s11 s12 sdf
        clear hB hF
        go_wp2
        go_meet
        case rel => exact ⟨rfl, hS⟩
  case rest =>
  clear HSD HCH HRC HLO HRL
  obtain ⟨rfl, hl, hA, hO, hr, hr1, hG⟩ := hcut
  obtain ⟨w4, hw4⟩ : ∃ x, x = wc := ⟨wc, rfl⟩
  subst hw4
  obtain ⟨⟨c0, c1, c2, c3, c4, c5, c6, c7⟩, -, -⟩ := hA.eight
  obtain ⟨⟨d0, d1, d2, d3, d4, d5, d6, d7⟩, -, -⟩ := hO.eight
  go_wp2_with fail
  refine (HFI.out _ _ hr1 hG).mono ?_
  rintro en w5 ⟨v5, rfl, ho5, hb5⟩
  obtain ⟨a5, cap5, hv5e, -, hg5⟩ := own_slice ho5
  subst hv5e
  have hbx := bel1 w5 (.cells #[.int .i64 mq, .int .i64 cq, .int .i64 tq, .int .i64 ecq, .bool sdq, .bool okq, .bool spq, (.slice a5 qs.length cap5)] 24)
  have hX := At.box w5 #[.int .i64 mq, .int .i64 cq, .int .i64 tq, .int .i64 ecq, .bool sdq, .bool okq, .bool spq, (.slice a5 qs.length cap5)] 24
  have hb7 := bt hb5 hbx
  have hd : Below (w5.alloc (.cells #[.int .i64 mq, .int .i64 cq, .int .i64 tq, .int .i64 ecq, .bool sdq, .bool okq, .bool spq, (.slice a5 qs.length cap5)] 24)).heap.size (w5.alloc (.cells #[.int .i64 mq, .int .i64 cq, .int .i64 tq, .int .i64 ecq, .bool sdq, .bool okq, .bool spq, (.slice a5 qs.length cap5)] 24)) (w5.alloc (.cells #[.int .i64 mq, .int .i64 cq, .int .i64 tq, .int .i64 ecq, .bool sdq, .bool okq, .bool spq, (.slice a5 qs.length cap5)] 24)).drew := (Below.refl _ _).drew
  have HW : Hid (Below w.heap.size w w4 ∧ At w4 w.heap.size #[.int .i64 m, .int .i64 c, .int .i64 t, .int .i64 ec, .bool sd, .bool ok, .bool sp, (.slice a rs.length cap)] ∧ At w4 wo.heap.size #[.int .i64 m, .int .i64 c, .int .i64 t, .int .i64 ec, .bool sd, .bool ok, .bool sp, (.slice a1 rs.length cap1)] ∧ Rgs w4 (.slice a rs.length cap) rs ∧ Rgs w4 (.slice a1 rs.length cap1) rs) := ⟨hl, hA, hO, hr, hr1⟩
  have HG5 : Hid (∀ k, (Value.slice a5 qs.length cap5).ownBlock = some k → k < w5.heap.size) := fun k e => (ho5.lt k e).2
  have HSD : Hid (Below w4.heap.size w4 (w5.alloc (.cells #[.int .i64 mq, .int .i64 cq, .int .i64 tq, .int .i64 ecq, .bool sdq, .bool okq, .bool spq, (.slice a5 qs.length cap5)] 24)).drew ∧ At (w5.alloc (.cells #[.int .i64 mq, .int .i64 cq, .int .i64 tq, .int .i64 ecq, .bool sdq, .bool okq, .bool spq, (.slice a5 qs.length cap5)] 24)).drew w.heap.size #[.int .i64 m, .int .i64 c, .int .i64 t, .int .i64 ec, .bool sd, .bool ok, .bool sp, (.slice a rs.length cap)] ∧ At (w5.alloc (.cells #[.int .i64 mq, .int .i64 cq, .int .i64 tq, .int .i64 ecq, .bool sdq, .bool okq, .bool spq, (.slice a5 qs.length cap5)] 24)).drew w5.heap.size #[.int .i64 mq, .int .i64 cq, .int .i64 tq, .int .i64 ecq, .bool sdq, .bool okq, .bool spq, (.slice a5 qs.length cap5)] ∧ Rgs (w5.alloc (.cells #[.int .i64 mq, .int .i64 cq, .int .i64 tq, .int .i64 ecq, .bool sdq, .bool okq, .bool spq, (.slice a5 qs.length cap5)] 24)).drew (.slice a rs.length cap) rs ∧ (w5.alloc (.cells #[.int .i64 mq, .int .i64 cq, .int .i64 tq, .int .i64 ecq, .bool sdq, .bool okq, .bool spq, (.slice a5 qs.length cap5)] 24)).drew.ownsRow w4.heap.size 35 2 (.slice a5 qs.length cap5) qs.length (flatR qs)) := keepX hd ⟨hb7, hA.later hb7, hX, hr.later hb7, own_later ho5 hbx⟩
  clear c0 c1 c2 c3 c4 c5 c6 c7 d0 d1 d2 d3 d4 d5 d6 d7
  obtain ⟨⟨c0, c1, c2, c3, c4, c5, c6, c7⟩, -, -⟩ := (hA.later hb7).eight
  obtain ⟨⟨d0, d1, d2, d3, d4, d5, d6, d7⟩, -, -⟩ := hX.eight
  clear hl hA hO hr hr1 hX hb7 hbx hb5 ho5 hd hG
  go_upto_region 7 with fail
  clear c0 c1 c2 c3 c4 c5 c6 c7 d0 d1 d2 d3 d4 d5 d6 d7
  go_cut [11] from 13 (fun s W => s = .bool true ∧ Below w4.heap.size w4 W ∧ At W w.heap.size #[.int .i64 m, .int .i64 c, .int .i64 t, .int .i64 ec, .bool sd, .bool ok, .bool sp, (.slice a rs.length cap)] ∧ At W w5.heap.size #[.int .i64 mq, .int .i64 cq, .int .i64 tq, .int .i64 ecq, .bool sdq, .bool okq, .bool spq, (.slice a5 qs.length cap5)] ∧ Rgs W (.slice a rs.length cap) rs ∧ W.ownsRow w4.heap.size 35 2 (.slice a5 qs.length cap5) qs.length (flatR qs))
  case first =>
    clear HFI HW HG5 hg5
    refine wp_region_any (by kernel_rfl) ?_
    refine region_facts (fun W => Below w4.heap.size w4 W ∧ At W w.heap.size #[.int .i64 m, .int .i64 c, .int .i64 t, .int .i64 ec, .bool sd, .bool ok, .bool sp, (.slice a rs.length cap)] ∧ At W w5.heap.size #[.int .i64 mq, .int .i64 cq, .int .i64 tq, .int .i64 ecq, .bool sdq, .bool okq, .bool spq, (.slice a5 qs.length cap5)] ∧ Rgs W (.slice a rs.length cap) rs ∧ W.ownsRow w4.heap.size 35 2 (.slice a5 qs.length cap5) qs.length (flatR qs)) (GE (fun i => match i with | 0 => .agg #[.int .i64 mq, .int .i64 cq, .int .i64 tq, .int .i64 ecq, .bool sdq, .bool okq, .bool spq, (.slice a5 qs.length cap5)] | 1 => .agg #[.int .i64 m, .int .i64 c, .int .i64 t, .int .i64 ec, .bool sd, .bool ok, .bool sp, (.slice a rs.length cap)] | 2 => .int .i64 most | 4 => .bool true | 5 => .bool true | _ => undef) (fun i => match i with | 3 => some (fun v W => ∃ u, v = .agg #[.int .i64 mq, .int .i64 cq, .int .i64 tq, .int .i64 ecq, .bool sdq, .bool okq, .bool spq, u] ∧ Rgs W u qs) | _ => none)) (n := 79) (by kernel_rfl) rfl (by kernel_rfl) (GE_later _ _ (by
      intro i F hF v w w' h hb
      match i, hF with
      | 3, hF =>
        obtain rfl := Option.some.inj hF
        obtain ⟨u, hu, hr⟩ := h
        exact ⟨u, hu, hr.later hb⟩)) ?_ ?_ HSD.out (Nat.le_refl _)
    · skip
      refine ⟨?_, ?_, ?_, ?_, ?_, ?_, trivial⟩
      · intro ac w1 hS hT hB hD K hK
        rw [if_pos (by rfl)]
        have d10 : ac.tmps.getD 10 undef = .pointer (some ⟨w5.heap.size, 0, none⟩) := hB 10 (by kernel_rfl)
        clear hB hD hT
        have hc := hS.2.2.1.eight.1
        go_simp
        exact hK _ _ hS (Below.refl _ _) rfl
      · intro ac w1 hS hT hB hD K hK
        rw [if_pos (by rfl)]
        have d2 : ac.tmps.getD 2 undef = .pointer (some ⟨w.heap.size, 0, none⟩) := hB 2 (by kernel_rfl)
        clear hB hD hT
        have hc := hS.2.1.eight.1
        go_simp
        exact hK _ _ hS (Below.refl _ _) rfl
      · intro ac w1 hS hT hB hD K hK
        rw [if_pos (by rfl)]
        have d1 : ac.tmps.getD 1 undef = .int .i64 most := hB 1 (by kernel_rfl)
        clear hB hD hT
        go_simp
        exact hK _ _ hS (Below.refl _ _) rfl
      · intro ac w1 hS hT hB hD K hK
        rw [if_pos (by rfl)]
        have d57 : ac.tmps.getD 57 undef = .agg #[.int .i64 m, .int .i64 c, .int .i64 t, .int .i64 ec, .bool sd, .bool ok, .bool sp, (.slice a rs.length cap)] := hD ⟨1, .data⟩ (by simp) rfl _ 57 rfl rfl
        have d58 : ac.tmps.getD 58 undef = .int .i64 most := hD ⟨2, .data⟩ (by simp) rfl _ 58 rfl rfl
        clear hB hD hT
        go_simp
        refine (HRF.out _ _ hS.2.2.2.1).mono ?_
        rintro e w' ⟨u, rfl, hu, hb⟩
        exact hK _ _ (keepX hb hS) hb ⟨u, rfl, hu⟩
      · intro ac w1 hS hT hB hD K hK
        rw [if_pos (by rfl)]
        have d56 : ac.tmps.getD 56 undef = .agg #[.int .i64 mq, .int .i64 cq, .int .i64 tq, .int .i64 ecq, .bool sdq, .bool okq, .bool spq, (.slice a5 qs.length cap5)] := hD ⟨0, .data⟩ (by simp) rfl _ 56 rfl rfl
        obtain ⟨u, d59, hu⟩ := hD ⟨3, .data⟩ (by simp) rfl _ 59 rfl rfl
        clear hB hD hT
        go_simp
        have hq := rsame_any mq cq tq ecq sdq okq spq _ qs mq cq tq ecq sdq okq spq u qs _ (Rgs.of_own hS.2.2.2.2) hu HQ.out HQ.out
        rw [sameO_self] at hq
        refine hq.mono ?_
        rintro e w' ⟨rfl, hb⟩
        exact hK _ _ (keepX hb hS) hb rfl
      · intro ac w1 hS hT hB hD K hK
        rw [if_pos (by rfl)]
        have d60 : ac.tmps.getD 60 undef = .bool true := hD ⟨4, .data⟩ (by simp) rfl _ 60 rfl rfl
        clear hB hD hT
        go_simp
        exact hK _ _ hS (Below.refl _ _) rfl
    · intro a1 w9 hS hT hdf hB hF
      obtain ⟨⟨l⟩, df⟩ := a1
      match l, hT with
      | x0 :: x1 :: x2 :: x3 :: x4 :: x5 :: x6 :: x7 :: x8 :: x9 :: x10 :: x11 :: x12 :: x13 :: x14 :: x15 :: x16 :: x17 :: x18 :: x19 :: x20 :: x21 :: x22 :: x23 :: x24 :: x25 :: x26 :: x27 :: x28 :: x29 :: x30 :: x31 :: x32 :: x33 :: x34 :: x35 :: x36 :: x37 :: x38 :: x39 :: x40 :: x41 :: x42 :: x43 :: x44 :: x45 :: x46 :: x47 :: x48 :: x49 :: x50 :: x51 :: x52 :: x53 :: x54 :: x55 :: x56 :: x57 :: x58 :: x59 :: x60 :: x61 :: x62 :: x63 :: x64 :: x65 :: x66 :: x67 :: x68 :: x69 :: x70 :: x71 :: x72 :: x73 :: x74 :: x75 :: x76 :: x77 :: x78 :: [], _ =>
        have s11 : x11 = .bool true := hF 5 _ 11 rfl rfl
        have s0 : x0 = .agg #[.int .i64 m, .int .i64 c, .int .i64 t, .int .i64 ec, .bool sd, .bool ok, .bool sp, (.slice a rs.length cap)] := hB 0 (by kernel_rfl)
        have s1 : x1 = .int .i64 most := hB 1 (by kernel_rfl)
        have s2 : x2 = .pointer (some ⟨w.heap.size, 0, none⟩) := hB 2 (by kernel_rfl)
        have s3 : x3 = undef := hB 3 (by kernel_rfl)
        have s4 : x4 = .bool false := hB 4 (by kernel_rfl)
        have s5 : x5 = .pointer (some ⟨wo.heap.size, 0, none⟩) := hB 5 (by kernel_rfl)
        have s6 : x6 = .string E := hB 6 (by kernel_rfl)
        have s7 : x7 = .int .i64 cd := hB 7 (by kernel_rfl)
        have s8 : x8 = .string E := hB 8 (by kernel_rfl)
        have s9 : x9 = .int .i64 cd := hB 9 (by kernel_rfl)
        have s10 : x10 = .pointer (some ⟨w5.heap.size, 0, none⟩) := hB 10 (by kernel_rfl)
        have s12 : x12 = undef := hB 12 (by kernel_rfl)
        have sdf : df = [] := hdf
        subst s11 s0 s1 s2 s3 s4 s5 s6 s7 s8 s9 s10 s12 sdf
        clear hB hF
        go_wp2
        go_meet
        case rel => exact ⟨rfl, hS⟩
  case rest =>
  clear HSD HFI HRF
  obtain ⟨rfl, hl, -, hX, -, ho5⟩ := hcut
  have HX : Hid (At wc w5.heap.size #[.int .i64 mq, .int .i64 cq, .int .i64 tq, .int .i64 ecq, .bool sdq, .bool okq, .bool spq, (.slice a5 qs.length cap5)] ∧ wc.ownsRow w4.heap.size 35 2 (.slice a5 qs.length cap5) qs.length (flatR qs) ∧ Below w4.heap.size w4 wc) := ⟨hX, ho5, hl⟩
  clear hX ho5 hl
  go_wp2_with fail
  go_loopw [12] (fun i W => ∃ (k : Nat) (xs : List Value), k ≤ qs.length ∧ i = .int .i64 k ∧ W.ownsRow w4.heap.size 35 2 (.slice a5 qs.length cap5) qs.length xs ∧ At W w5.heap.size #[.int .i64 mq, .int .i64 cq, .int .i64 tq, .int .i64 ecq, .bool sdq, .bool okq, .bool spq, (.slice a5 qs.length cap5)] ∧ Below w4.heap.size w4 W) (fun i _ => qs.length - (intOf i).toNat)
  case atStart => exact ⟨0, flatR qs, Nat.zero_le _, rfl, HX.out.2.1, HX.out.1, HX.out.2.2⟩
  case round =>
    clear HX
    obtain ⟨k, xs, hk, rfl, hown, hX, hbl⟩ := hrel
    obtain ⟨⟨d0, d1, d2, d3, d4, d5, d6, d7⟩, -, -⟩ := hX.eight
    by_cases hlt : k < qs.length
    · obtain ⟨g, hg⟩ := hg5 (by omega)
      subst hg
      have hlx : xs.length = qs.length * 2 := hown.1
      have hcell := hown.cellAt (k * 2) (by omega)
      have hfr := hown.frozenAt (k * 2)
      rw [List.getElem?_eq_getElem (by omega)] at hcell
      have hgx : g < w5.heap.size := HG5.out g rfl
      have hgb : w4.heap.size ≤ g := (hown.lt g rfl).1
      have HO : Hid (wr.ownsRow w4.heap.size 35 2 (.slice (some ⟨g, 0, none⟩) qs.length cap5) qs.length xs) := hown
      have HL : Hid (xs.length = qs.length * 2) := hlx
      have hq0 : qs.length ≤ 17592186044416 := HQ.out
      have l0 : (0 : Int) ≤ (k : Int) := by omega
      have l1 : (k : Int) < (qs.length : Int) := by omega
      generalize xs[k * 2] = old at *
      clear hown hlx
      go_wp2
      go_roundw
      case rel => exact ⟨k + 1, xs.set (k * 2) (.int .i64 (-9)), by omega, by go_num, (HO.out.stored (k * 2) _).1, hX.keep (by omega) _ _, hbl.setCell hgb _⟩
      case measure => simp [intOf]; omega
    · have hk' : k = qs.length := by omega
      subst hk'
      obtain ⟨⟨c0, c1, c2, c3, c4, c5, c6, c7⟩, -, -⟩ := (HW.out.2.1.later hbl).eight
      obtain ⟨⟨e0, e1, e2, e3, e4, e5, e6, e7⟩, -, -⟩ := (HW.out.2.2.1.later hbl).eight
      have hsm := rsame_any m c t ec sd ok sp (.slice a1 rs.length cap1) rs m c t ec sd ok sp (.slice a rs.length cap) rs _ (HW.out.2.2.2.2.later hbl) (HW.out.2.2.2.1.later hbl) HN.out HN.out
      rw [sameO_self] at hsm
      go_wp2_with fail
      refine hsm.mono ?_
      rintro en wz ⟨rfl, hb⟩
      go_wp2
      go_ret
      exact ⟨rfl, bt HW.out.1 (bt hbl hb)⟩
theorem walk (m c t ec : Int) (sd ok sp : Bool) (v : Value) (rs : List (Int × Int)) (most : Int) (w : World) (hG : Ord w) (hv : Rgs w v rs) (hz : rs.length * 16 ≤ 140737488351232) :
    Calls Tryd.prog 3 #[.agg #[.int .i64 m, .int .i64 c, .int .i64 t, .int .i64 ec, .bool sd, .bool ok, .bool sp, v], .int .i64 most] w fun e w' => e = .returned (.bool true) ∧ Below w.heap.size w w' := by
  obtain ⟨a, cap, e1, -⟩ := id hv
  subst e1
  have hn : rs.length ≤ 17592186044416 := by omega
  rcases Bool.eq_false_or_eq_true (mayO m c t ec sd ok sp rs) with hm | hm
  · have hn4 := mayO_short hm
    have hlk : (rs.take (fitN m sd ok sp most rs.length)).length = fitN m sd ok sp most rs.length := by rw [List.length_take]; have := fitN_le m sd ok sp most rs.length; omega
    refine walk_c m c t ec sd ok sp a cap rs most (encO m c t ec sd ok sp rs) 0 (longN m sd ok sp rs.length) m c t ec sd ok sp (rs.take (fitN m sd ok sp most rs.length)) w hG hv hz (show _ ≤ _ by rw [hlk]; have := fitN_le m sd ok sp most rs.length; omega) (fun W u h1 h2 => enc_t m c t ec sd ok sp u rs W h1 hm h2) (fun W u h1 => renc_t m c t ec sd ok sp u rs W h1 hm) (fun W u h1 h2 => ?_) (fun W u h1 => ?_) (fun W u h1 h2 => ?_) (fun W u h1 => rlong_t m c t ec sd ok sp u rs W h1 hm) (fun W u h1 h2 => ?_) (fun W u h1 => rfit_t m c t ec sd ok sp u rs most W h1 hm)
    · have := check_o m c t ec sd ok sp u rs W h1 hn h2
      rw [hm, codeO_t] at this; exact this
    · have := rcheck_o m c t ec sd ok sp u rs W h1 hn
      rw [hm, codeO_t] at this; exact this
    · have := long_o m c t ec sd ok sp u rs W h1 hn h2
      rw [hm, if_pos rfl] at this; exact this
    · rw [hlk]
      exact fit_t m c t ec sd ok sp u rs most W h1 hm h2
  · refine walk_c m c t ec sd ok sp a cap rs most ⟨#[]⟩ 70 0 0 0 0 0 false false false [] w hG hv hz (show _ ≤ _ by decide) (fun W u h1 h2 => enc_f m c t ec sd ok sp u rs W h1 hn hm h2) (fun W u h1 => renc_f m c t ec sd ok sp u rs W h1 hn hm) (fun W u h1 h2 => ?_) (fun W u h1 => ?_) (fun W u h1 h2 => ?_) (fun W u h1 => rlong_f m c t ec sd ok sp u rs W h1 hn hm) (fun W u h1 h2 => ?_) (fun W u h1 => ?_)
    · have := check_o m c t ec sd ok sp u rs W h1 hn h2
      rw [hm, codeO_f] at this; exact this
    · have := rcheck_o m c t ec sd ok sp u rs W h1 hn
      rw [hm, codeO_f] at this; exact this
    · have := long_o m c t ec sd ok sp u rs W h1 hn h2
      rw [hm, if_neg (by decide)] at this; exact this
    · refine (fit_f m c t ec sd ok sp u rs most W h1 hn hm h2).mono ?_
      rintro e w' ⟨rfl, hb⟩
      exact ⟨_, rfl, World.ownsRow_nil _ _ _ _, hb⟩
    · refine (rfit_f m c t ec sd ok sp u rs most W h1 hn hm).mono ?_
      rintro e w' ⟨rfl, hb⟩
      exact ⟨_, rfl, Rgs.nil _, hb⟩

set_option maxRecDepth 100000 in
theorem lifted (os : Os) (started : os.Started) (H : Type) (enc : TypeId × Value → H) :
    ReturnsInHanded {} Tryd.checked os 3 .any (fun w args => (Rows.optsWriteSpec.pre enc Tryd.prog Tryd.f3 [] false w args ∧ laidMetH Tryd.prog laidL w) ∧ sizedMet enc Tryd.prog Tryd.f3 (OpenSpec.ofChange Rows.optsWriteSpec) false w args)
      (Rows.optsWriteSpec.post enc Tryd.prog Tryd.f3 false true false false) := by
  refine returnsInHanded_of_change_and (C := Tryd.checked) (X := fun w _ => laidMetH Tryd.prog laidL w) (fun _ _ _ hh h => h.of_heap hh) ownK started (by kernel_rfl) Tryd.func3
    (ChangeSpec.witness_shaped (enc := enc) (C := Tryd.checked) (os := os) (X := fun w _ => laidMetH Tryd.prog laidL w) false (World.doorLaid Tryd.prog 400 os) #[.agg #[.int .i64 0, .int .i64 0, .int .i64 0, .int .i64 0, .bool false, .bool false, .bool false, .slice none 0 0], .int .i64 0] 8 rfl (World.shaped_of_RefB (by kernel_rfl) (by kernel_rfl)) (by kernel_rfl) (by kernel_rfl) (by kernel_rfl) (door_met os _)) ?_
  intro W base args ds gs before hval0 hW hcnd hsz0 hL _
  have hG := ord_of hL
  have hsz : (DataW.weightsEach Tryd.prog (Tryd.f3.params.toList ++ Rows.optsWriteSpec.plain.varTypes Tryd.prog) (ds ++ gs)).all (· ≤ reachBytes) = true := hsz0
  have hval : ∀ (j : Nat) t v, Tryd.f3.params[j]? = some t → args[j]? = some v → Value.okWide Tryd.prog W .any base t v := hval0
  have hW' := hW
  obtain ⟨p, q, hA0, hV, rfl, hfz, hnd⟩ := hW
  have hA : DataW.TrodAll enc Tryd.prog W 0 (fun _ => true) true Tryd.f3.params.toList args.toList ds p := hA0
  rw [Tryd.params3] at hA hval hsz
  obtain ⟨v0, vs0, d0, ds0, p0, q0, hargs, rfl, rfl, h0, r0⟩ := trodAll_cons hA
  obtain ⟨v1, vs1, d1, ds1, p1, q1, rfl, rfl, rfl, h1, r1⟩ := trodAll_cons r0
  obtain ⟨rfl, rfl, rfl⟩ := trodAll_nil r1
  obtain rfl : args = #[v0, v1] := by cases args; simp_all
  obtain ⟨rfl, rfl⟩ := trodVars_none hV
  have k0 := h0
  have lt0 : ∀ x ∈ p0, x.block < W.heap.size := by obtain ⟨m, hm⟩ := k0; exact DataW.trod_lt m _ _ _ hm
  have k1 := h1
  have lt1 : ∀ x ∈ p1, x.block < W.heap.size := by obtain ⟨m, hm⟩ := k1; exact DataW.trod_lt m _ _ _ hm
  obtain ⟨m0, c0, t0, ec0, sd0, ok0, sp0, u0, rs0, parts0, rfl, hdp0, hr0, hw0⟩ := open24 (hval 0 24 v0 rfl rfl) h0
  have z0 : rs0.length * 16 ≤ 140737488351232 := sized_24 hsz (j := 0) rfl (by rw [hdp0]; rfl) hw0
  obtain ⟨a1, rfl, -, -, w1⟩ := open_int Tryd.underlying3 (hval 1 3 v1 rfl rfl) h1
  clear hA0 hval0
  refine (walk m0 c0 t0 ec0 sd0 ok0 sp0 u0 rs0 a1 W hG hr0 z0).mono fun e W' ⟨he, bel⟩ => ?_
  subst he
  exact ⟨_, rfl, _, _, _, [], _, [], hW', trodAll_mk1 (shut_bool Tryd.underlying4 _), (trodAll_cons_mk (Below.trod laidOutK (by kernel_rfl) (of_decide_eq_true (by kernel_rfl)) k0 bel lt0) (trodAll_cons_mk (Below.trod laidOutK (by kernel_rfl) (of_decide_eq_true (by kernel_rfl)) k1 bel lt1) trodAll_mk0)), rfl, bel.frame _, fun h => by cases h⟩

theorem over : Rows.optsWriteRow.holds Tryd.pinned (OpenSpec.ofChange Rows.optsWriteSpec) :=
  OpenClaim.holds_of_wide 3 Tryd.f3 rfl rfl rfl rfl rfl rfl rfl ⟨rfl, rfl, rfl, rfl, rfl⟩ rfl rfl rfl rfl rfl (by kernel_rfl) Tryd.func3 (by kernel_rfl)
    (of_decide_eq_true (by kernel_rfl)) (by unfold Func.isWrapper; first | (rw [if_pos (by decide +kernel)]; kernel_rfl) | (rw [if_neg (by decide +kernel)]; exact ⟨rfl, rfl⟩))
    (fun os started H enc _ => lifted os started H enc)

end Go.Proofs.YtecoknenkjgmjaaDoor.optsWrite
namespace Go.Proofs.YtecoknenkjgmjaaDoor
open Go
theorem optsWrite_card_holds : Rows.OptsWriteCardSaid :=
  Claim7.holds_tied_plain_at .later [] [.data] true (true, "b329e8443bf405fc7ec9c7f296bf5b15ced440c224d2249f857770d22ce70a43") false
    optsWrite.over (fun _ h => by cases h) (by kernel_rfl) (fun _ h => by cases h) optsWrite_row_tie rfl ⟨rfl, rfl⟩ (by kernel_rfl) rfl
    (fun f fn hf hfn => by
      obtain rfl : f = 3 := Option.some.inj ((show Tryd.prog.funcNamed "sternpost/sternpostlaw07.OptsWrite" = some 3 by kernel_rfl).symm.trans hf) |>.symm
      obtain rfl : fn = Tryd.f3 := (Option.some.inj (Tryd.func3.symm.trans hfn)).symm
      exact ⟨by kernel_rfl, fun j t ht => by
        rw [Tryd.params3] at ht
        have hm : t ∈ [24, 3] := by simpa using Array.mem_of_getElem? ht
        have hall : ([24, 3].all fun u => !Tryd.prog.wantsStandIn u) = true := by kernel_rfl
        exact (show Tryd.prog.wantsStandIn t = false by simpa using List.all_eq_true.1 hall t hm)⟩)
    (by kernel_rfl)
end Go.Proofs.YtecoknenkjgmjaaDoor
