/- For all options: Same of package opts tells what the document's tells; a copy is the same; the chapter's example comes out; and what came in reads as it did. Conditions: the card's own alone (the order of the kinds is what the program's text lays). -/
import Derived.Test.YtacokljohbjnjaaDoorOg
import Derived.Test.YtacokljohbjnjaaDoorOh
import Derived.Test.YtacokljohbjnjaaDoorGx
import Derived.Test.YtacokljohbjnjaaDoorFr
import Derived.Test.YtacokljohbjnjaaDoorTie
import Derived.Test.YtacokljohbjnjaaDoorCards
import Derived.SevenTiedAt
import Derived.Stop.Joined
namespace Go.Proofs.YtacokljohbjnjaaDoor.optsSame
open Go.ChangeShapes Go.WideShapes Go.ChangeAt Go.RowKit
open Go.ChangeMaps (open_string)
set_option linter.unusedVariables false

-- WALK
theorem keepX {w W x : World} {p q : Nat} {A B : Array Value} {v v' : Value} {rs rs' : List (Int × Int)} (hb : Below W.heap.size W x) (h : Below w.heap.size w W ∧ At W p A ∧ At W q B ∧ Rgs W v rs ∧ Rgs W v' rs' ∧ Ord W) : Below w.heap.size w x ∧ At x p A ∧ At x q B ∧ Rgs x v rs ∧ Rgs x v' rs' ∧ Ord x :=
  ⟨bt h.1 hb, h.2.1.later hb, h.2.2.1.later hb, h.2.2.2.1.later hb, h.2.2.2.2.1.later hb, h.2.2.2.2.2.later hb⟩
set_option maxRecDepth 100000 in
set_option maxHeartbeats 4000000 in
theorem walk (m c t ec : Int) (sd ok sp : Bool) (v : Value) (rs : List (Int × Int)) (m' c' t' ec' : Int) (sd' ok' sp' : Bool) (v' : Value) (rs' : List (Int × Int)) (w : World) (hG : Ord w) (hv : Rgs w v rs) (hz : rs.length * 16 ≤ 140737488351232) (hv' : Rgs w v' rs') (hz' : rs'.length * 16 ≤ 140737488351232) :
    Calls Tryd.prog 5 #[.agg #[.int .i64 m, .int .i64 c, .int .i64 t, .int .i64 ec, .bool sd, .bool ok, .bool sp, v], .agg #[.int .i64 m', .int .i64 c', .int .i64 t', .int .i64 ec', .bool sd', .bool ok', .bool sp', v']] w fun e w' => e = .returned (.bool true) ∧ Below w.heap.size w w' := by
  obtain ⟨a, cap, e1, -⟩ := id hv
  obtain ⟨a', cap', e2, -⟩ := id hv'
  subst e1 e2
  have hb1 := bel1 w (.cells #[.int .i64 m, .int .i64 c, .int .i64 t, .int .i64 ec, .bool sd, .bool ok, .bool sp, (.slice a rs.length cap)] 24)
  have hb2 := bel1 (w.alloc (.cells #[.int .i64 m, .int .i64 c, .int .i64 t, .int .i64 ec, .bool sd, .bool ok, .bool sp, (.slice a rs.length cap)] 24)) (.cells #[.int .i64 m', .int .i64 c', .int .i64 t', .int .i64 ec', .bool sd', .bool ok', .bool sp', (.slice a' rs'.length cap')] 24)
  have hd : Below ((w.alloc (.cells #[.int .i64 m, .int .i64 c, .int .i64 t, .int .i64 ec, .bool sd, .bool ok, .bool sp, (.slice a rs.length cap)] 24)).alloc (.cells #[.int .i64 m', .int .i64 c', .int .i64 t', .int .i64 ec', .bool sd', .bool ok', .bool sp', (.slice a' rs'.length cap')] 24)).heap.size ((w.alloc (.cells #[.int .i64 m, .int .i64 c, .int .i64 t, .int .i64 ec, .bool sd, .bool ok, .bool sp, (.slice a rs.length cap)] 24)).alloc (.cells #[.int .i64 m', .int .i64 c', .int .i64 t', .int .i64 ec', .bool sd', .bool ok', .bool sp', (.slice a' rs'.length cap')] 24)) ((w.alloc (.cells #[.int .i64 m, .int .i64 c, .int .i64 t, .int .i64 ec, .bool sd, .bool ok, .bool sp, (.slice a rs.length cap)] 24)).alloc (.cells #[.int .i64 m', .int .i64 c', .int .i64 t', .int .i64 ec', .bool sd', .bool ok', .bool sp', (.slice a' rs'.length cap')] 24)).drew := (Below.refl _ _).drew
  have HS0 : Hid (Below w.heap.size w ((w.alloc (.cells #[.int .i64 m, .int .i64 c, .int .i64 t, .int .i64 ec, .bool sd, .bool ok, .bool sp, (.slice a rs.length cap)] 24)).alloc (.cells #[.int .i64 m', .int .i64 c', .int .i64 t', .int .i64 ec', .bool sd', .bool ok', .bool sp', (.slice a' rs'.length cap')] 24)).drew ∧ At ((w.alloc (.cells #[.int .i64 m, .int .i64 c, .int .i64 t, .int .i64 ec, .bool sd, .bool ok, .bool sp, (.slice a rs.length cap)] 24)).alloc (.cells #[.int .i64 m', .int .i64 c', .int .i64 t', .int .i64 ec', .bool sd', .bool ok', .bool sp', (.slice a' rs'.length cap')] 24)).drew w.heap.size #[.int .i64 m, .int .i64 c, .int .i64 t, .int .i64 ec, .bool sd, .bool ok, .bool sp, (.slice a rs.length cap)] ∧ At ((w.alloc (.cells #[.int .i64 m, .int .i64 c, .int .i64 t, .int .i64 ec, .bool sd, .bool ok, .bool sp, (.slice a rs.length cap)] 24)).alloc (.cells #[.int .i64 m', .int .i64 c', .int .i64 t', .int .i64 ec', .bool sd', .bool ok', .bool sp', (.slice a' rs'.length cap')] 24)).drew (w.heap.size + 1) #[.int .i64 m', .int .i64 c', .int .i64 t', .int .i64 ec', .bool sd', .bool ok', .bool sp', (.slice a' rs'.length cap')] ∧ Rgs ((w.alloc (.cells #[.int .i64 m, .int .i64 c, .int .i64 t, .int .i64 ec, .bool sd, .bool ok, .bool sp, (.slice a rs.length cap)] 24)).alloc (.cells #[.int .i64 m', .int .i64 c', .int .i64 t', .int .i64 ec', .bool sd', .bool ok', .bool sp', (.slice a' rs'.length cap')] 24)).drew (.slice a rs.length cap) rs ∧ Rgs ((w.alloc (.cells #[.int .i64 m, .int .i64 c, .int .i64 t, .int .i64 ec, .bool sd, .bool ok, .bool sp, (.slice a rs.length cap)] 24)).alloc (.cells #[.int .i64 m', .int .i64 c', .int .i64 t', .int .i64 ec', .bool sd', .bool ok', .bool sp', (.slice a' rs'.length cap')] 24)).drew (.slice a' rs'.length cap') rs' ∧ Ord ((w.alloc (.cells #[.int .i64 m, .int .i64 c, .int .i64 t, .int .i64 ec, .bool sd, .bool ok, .bool sp, (.slice a rs.length cap)] 24)).alloc (.cells #[.int .i64 m', .int .i64 c', .int .i64 t', .int .i64 ec', .bool sd', .bool ok', .bool sp', (.slice a' rs'.length cap')] 24)).drew) :=
    ⟨bt (bt hb1 hb2) hd, ((At.box w _ 24).later hb2).later hd, (At.box2 w _ _ 24).later hd, ((hv.later hb1).later hb2).later hd, ((hv'.later hb1).later hb2).later hd, ((hG.later hb1).later hb2).later hd⟩
  have HN : Hid (rs.length ≤ 17592186044416) := by show _ ≤ _; omega
  have HN' : Hid (rs'.length ≤ 17592186044416) := by show _ ≤ _; omega
  have HZ : Hid (rs.length * 16 ≤ 140737488351232) := hz
  clear hb1 hb2 hd hv hv' hz hz' hG
  go_enter Tryd.func5, Tryd.ntmps5
  go_wp2
  refine wp_region_any (by kernel_rfl) ?_
  refine region_facts (fun W => Below w.heap.size w W ∧ At W w.heap.size #[.int .i64 m, .int .i64 c, .int .i64 t, .int .i64 ec, .bool sd, .bool ok, .bool sp, (.slice a rs.length cap)] ∧ At W (w.heap.size + 1) #[.int .i64 m', .int .i64 c', .int .i64 t', .int .i64 ec', .bool sd', .bool ok', .bool sp', (.slice a' rs'.length cap')] ∧ Rgs W (.slice a rs.length cap) rs ∧ Rgs W (.slice a' rs'.length cap') rs' ∧ Ord W) (GE (fun i => match i with | 0 => .agg #[.int .i64 m, .int .i64 c, .int .i64 t, .int .i64 ec, .bool sd, .bool ok, .bool sp, (.slice a rs.length cap)] | 1 => .agg #[.int .i64 m', .int .i64 c', .int .i64 t', .int .i64 ec', .bool sd', .bool ok', .bool sp', (.slice a' rs'.length cap')] | 2 => .bool (sameO m c t ec sd ok sp rs m' c' t' ec' sd' ok' sp' rs') | 3 => .agg #[.int .i64 m, .int .i64 c, .int .i64 t, .int .i64 ec, .bool sd, .bool ok, .bool sp, (.slice a rs.length cap)] | 4 => .agg #[.int .i64 m', .int .i64 c', .int .i64 t', .int .i64 ec', .bool sd', .bool ok', .bool sp', (.slice a' rs'.length cap')] | 5 => .bool (sameO m c t ec sd ok sp rs m' c' t' ec' sd' ok' sp' rs') | 6 => .bool true | 7 => .bool true | 8 => .agg #[.int .i64 m, .int .i64 c, .int .i64 t, .int .i64 ec, .bool sd, .bool ok, .bool sp, (.slice a rs.length cap)] | 9 => .agg #[.int .i64 m, .int .i64 c, .int .i64 t, .int .i64 ec, .bool sd, .bool ok, .bool sp, (.slice a rs.length cap)] | 11 => .bool true | 12 => .bool true | 13 => .bool true | 14 => .bool true | 15 => .bool true | 16 => .bool true | _ => undef) (fun i => match i with | 10 => some (fun v W => ∃ u, v = .agg #[.int .i64 m, .int .i64 c, .int .i64 t, .int .i64 ec, .bool sd, .bool ok, .bool sp, u] ∧ Rgs W u rs) | _ => none)) (n := 21) (by kernel_rfl) rfl (by kernel_rfl) (GE_later _ _ (by
    intro i F hF v w w' h hb
    match i, hF with
    | 10, hF =>
      obtain rfl := Option.some.inj hF
      obtain ⟨u, hu, hr⟩ := h
      exact ⟨u, hu, hr.later hb⟩)) ?_ ?_ HS0.out (Nat.le_refl _)
  · clear HS0
    refine ⟨?_, ?_, ?_, ?_, ?_, ?_, ?_, ?_, ?_, ?_, ?_, ?_, ?_, ?_, ?_, ?_, ?_, trivial⟩
    · intro ac w1 hS hT hB hD K hK
      rw [if_pos (by rfl)]
      have d2 : ac.tmps.getD 2 undef = .pointer (some ⟨w.heap.size, 0, none⟩) := hB 2 (by kernel_rfl)
      clear hB hD hT
      have hc := hS.2.1.eight.1
      go_simp
      exact hK _ _ hS (Below.refl _ _) rfl
    · intro ac w1 hS hT hB hD K hK
      rw [if_pos (by rfl)]
      have d3 : ac.tmps.getD 3 undef = .pointer (some ⟨w.heap.size + 1, 0, none⟩) := hB 3 (by kernel_rfl)
      clear hB hD hT
      have hc := hS.2.2.1.eight.1
      go_simp
      exact hK _ _ hS (Below.refl _ _) rfl
    · intro ac w1 hS hT hB hD K hK
      rw [if_pos (by rfl)]
      have d5 : ac.tmps.getD 5 undef = .agg #[.int .i64 m, .int .i64 c, .int .i64 t, .int .i64 ec, .bool sd, .bool ok, .bool sp, (.slice a rs.length cap)] := hD ⟨0, .data⟩ (by simp) rfl _ 5 rfl rfl
      have d6 : ac.tmps.getD 6 undef = .agg #[.int .i64 m', .int .i64 c', .int .i64 t', .int .i64 ec', .bool sd', .bool ok', .bool sp', (.slice a' rs'.length cap')] := hD ⟨1, .data⟩ (by simp) rfl _ 6 rfl rfl
      clear hB hD hT
      go_simp
      refine (same_any _ _ _ _ _ _ _ _ rs _ _ _ _ _ _ _ _ rs' _ hS.2.2.2.1 hS.2.2.2.2.1 HN.out HN'.out).mono ?_
      rintro e w' ⟨rfl, hb⟩
      exact hK _ _ (keepX hb hS) hb rfl
    · intro ac w1 hS hT hB hD K hK
      rw [if_pos (by rfl)]
      have d2 : ac.tmps.getD 2 undef = .pointer (some ⟨w.heap.size, 0, none⟩) := hB 2 (by kernel_rfl)
      clear hB hD hT
      have hc := hS.2.1.eight.1
      go_simp
      exact hK _ _ hS (Below.refl _ _) rfl
    · intro ac w1 hS hT hB hD K hK
      rw [if_pos (by rfl)]
      have d3 : ac.tmps.getD 3 undef = .pointer (some ⟨w.heap.size + 1, 0, none⟩) := hB 3 (by kernel_rfl)
      clear hB hD hT
      have hc := hS.2.2.1.eight.1
      go_simp
      exact hK _ _ hS (Below.refl _ _) rfl
    · intro ac w1 hS hT hB hD K hK
      rw [if_pos (by rfl)]
      have d8 : ac.tmps.getD 8 undef = .agg #[.int .i64 m, .int .i64 c, .int .i64 t, .int .i64 ec, .bool sd, .bool ok, .bool sp, (.slice a rs.length cap)] := hD ⟨3, .data⟩ (by simp) rfl _ 8 rfl rfl
      have d9 : ac.tmps.getD 9 undef = .agg #[.int .i64 m', .int .i64 c', .int .i64 t', .int .i64 ec', .bool sd', .bool ok', .bool sp', (.slice a' rs'.length cap')] := hD ⟨4, .data⟩ (by simp) rfl _ 9 rfl rfl
      clear hB hD hT
      go_simp
      refine (rsame_any _ _ _ _ _ _ _ _ rs _ _ _ _ _ _ _ _ rs' _ hS.2.2.2.1 hS.2.2.2.2.1 HN.out HN'.out).mono ?_
      rintro e w' ⟨rfl, hb⟩
      exact hK _ _ (keepX hb hS) hb rfl
    · intro ac w1 hS hT hB hD K hK
      rw [if_pos (by rfl)]
      have d7 : ac.tmps.getD 7 undef = .bool (sameO m c t ec sd ok sp rs m' c' t' ec' sd' ok' sp' rs') := hD ⟨2, .data⟩ (by simp) rfl _ 7 rfl rfl
      have d10 : ac.tmps.getD 10 undef = .bool (sameO m c t ec sd ok sp rs m' c' t' ec' sd' ok' sp' rs') := hD ⟨5, .data⟩ (by simp) rfl _ 10 rfl rfl
      clear hB hD hT
      go_simp
      exact hK _ _ hS (Below.refl _ _) rfl
    · intro ac w1 hS hT hB hD K hK
      rw [if_pos (by rfl)]
      have d11 : ac.tmps.getD 11 undef = .bool true := hD ⟨6, .data⟩ (by simp) rfl _ 11 rfl rfl
      clear hB hD hT
      go_simp
      exact hK _ _ hS (Below.refl _ _) rfl
    · intro ac w1 hS hT hB hD K hK
      have g12 : ac.tmps.getD 12 undef = .bool true := hD ⟨7, .guard⟩ (by simp) rfl _ 12 rfl rfl
      rw [if_pos (want_t (j := 7) (d := 12) rfl rfl g12)]
      clear g12
      have d2 : ac.tmps.getD 2 undef = .pointer (some ⟨w.heap.size, 0, none⟩) := hB 2 (by kernel_rfl)
      clear hB hD hT
      have hc := hS.2.1.eight.1
      go_simp
      exact hK _ _ hS (Below.refl _ _) rfl
    · intro ac w1 hS hT hB hD K hK
      have g12 : ac.tmps.getD 12 undef = .bool true := hD ⟨7, .guard⟩ (by simp) rfl _ 12 rfl rfl
      rw [if_pos (want_t (j := 7) (d := 12) rfl rfl g12)]
      clear g12
      have d2 : ac.tmps.getD 2 undef = .pointer (some ⟨w.heap.size, 0, none⟩) := hB 2 (by kernel_rfl)
      clear hB hD hT
      have hc := hS.2.1.eight.1
      go_simp
      exact hK _ _ hS (Below.refl _ _) rfl
    · intro ac w1 hS hT hB hD K hK
      have g12 : ac.tmps.getD 12 undef = .bool true := hD ⟨7, .guard⟩ (by simp) rfl _ 12 rfl rfl
      rw [if_pos (want_t (j := 7) (d := 12) rfl rfl g12)]
      clear g12
      have d14 : ac.tmps.getD 14 undef = .agg #[.int .i64 m, .int .i64 c, .int .i64 t, .int .i64 ec, .bool sd, .bool ok, .bool sp, (.slice a rs.length cap)] := hD ⟨9, .data⟩ (by simp) rfl _ 14 rfl rfl
      clear hB hD hT
      go_simp
      refine (copied_any _ _ _ _ _ _ _ _ rs _ hS.2.2.2.1 HZ.out).mono ?_
      rintro e w' ⟨u, rfl, ho, hb⟩
      exact hK _ _ (keepX hb hS) hb ⟨u, rfl, Rgs.of_own ho⟩
    · intro ac w1 hS hT hB hD K hK
      have g12 : ac.tmps.getD 12 undef = .bool true := hD ⟨7, .guard⟩ (by simp) rfl _ 12 rfl rfl
      rw [if_pos (want_t (j := 7) (d := 12) rfl rfl g12)]
      clear g12
      have d13 : ac.tmps.getD 13 undef = .agg #[.int .i64 m, .int .i64 c, .int .i64 t, .int .i64 ec, .bool sd, .bool ok, .bool sp, (.slice a rs.length cap)] := hD ⟨8, .data⟩ (by simp) rfl _ 13 rfl rfl
      obtain ⟨u, d15, hu⟩ := hD ⟨10, .data⟩ (by simp) rfl _ 15 rfl rfl
      clear hB hD hT
      go_simp
      have hq := same_any m c t ec sd ok sp _ rs m c t ec sd ok sp u rs _ hS.2.2.2.1 hu HN.out HN.out
      rw [sameO_self] at hq
      refine hq.mono ?_
      rintro e w' ⟨rfl, hb⟩
      exact hK _ _ (keepX hb hS) hb rfl
    · intro ac w1 hS hT hB hD K hK
      rw [if_pos (by rfl)]
      have d12 : ac.tmps.getD 12 undef = .bool true := hD ⟨7, .data⟩ (by simp) rfl _ 12 rfl rfl
      have d16 : ac.tmps.getD 16 undef = .bool true := hD ⟨11, .data⟩ (by simp) rfl _ 16 rfl rfl
      clear hB hD hT
      go_simp
      exact hK _ _ hS (Below.refl _ _) rfl
    · intro ac w1 hS hT hB hD K hK
      rw [if_pos (by rfl)]
      have d17 : ac.tmps.getD 17 undef = .bool true := hD ⟨12, .data⟩ (by simp) rfl _ 17 rfl rfl
      clear hB hD hT
      go_simp
      exact hK _ _ hS (Below.refl _ _) rfl
    · intro ac w1 hS hT hB hD K hK
      have g18 : ac.tmps.getD 18 undef = .bool true := hD ⟨13, .guard⟩ (by simp) rfl _ 18 rfl rfl
      rw [if_pos (want_t (j := 13) (d := 18) rfl rfl g18)]
      clear g18
      clear hB hD hT
      go_simp
      refine (works_any _ hS.2.2.2.2.2).mono ?_
      rintro e w' ⟨rfl, hb⟩
      exact hK _ _ (keepX hb hS) hb rfl
    · intro ac w1 hS hT hB hD K hK
      rw [if_pos (by rfl)]
      have d18 : ac.tmps.getD 18 undef = .bool true := hD ⟨13, .data⟩ (by simp) rfl _ 18 rfl rfl
      have d19 : ac.tmps.getD 19 undef = .bool true := hD ⟨14, .data⟩ (by simp) rfl _ 19 rfl rfl
      clear hB hD hT
      go_simp
      exact hK _ _ hS (Below.refl _ _) rfl
    · intro ac w1 hS hT hB hD K hK
      rw [if_pos (by rfl)]
      have d20 : ac.tmps.getD 20 undef = .bool true := hD ⟨15, .data⟩ (by simp) rfl _ 20 rfl rfl
      clear hB hD hT
      go_simp
      exact hK _ _ hS (Below.refl _ _) rfl
  · intro a1 w1 hS hT hdf hB hF
    clear HS0
    obtain ⟨⟨l⟩, df⟩ := a1
    match l, hT with
    | x0 :: x1 :: x2 :: x3 :: x4 :: x5 :: x6 :: x7 :: x8 :: x9 :: x10 :: x11 :: x12 :: x13 :: x14 :: x15 :: x16 :: x17 :: x18 :: x19 :: x20 :: [], _ =>
      have s4 : x4 = .bool true := hF 16 _ 4 rfl rfl
      have sd : df = [] := hdf
      subst s4 sd
      clear hB hF
      go_wp2
      go_ret
      exact ⟨rfl, hS.1⟩

set_option maxRecDepth 100000 in
theorem lifted (os : Os) (started : os.Started) (H : Type) (enc : TypeId × Value → H) :
    ReturnsInHanded {} Tryd.checked os 5 .any (fun w args => (Rows.optsSameSpec.pre enc Tryd.prog Tryd.f5 [] false w args ∧ laidMetH Tryd.prog laidL w) ∧ sizedMet enc Tryd.prog Tryd.f5 (OpenSpec.ofChange Rows.optsSameSpec) false w args)
      (Rows.optsSameSpec.post enc Tryd.prog Tryd.f5 false true false false) := by
  refine returnsInHanded_of_change_and (C := Tryd.checked) (X := fun w _ => laidMetH Tryd.prog laidL w) (fun _ _ _ hh h => h.of_heap hh) ownK started (by kernel_rfl) Tryd.func5
    (ChangeSpec.witness_shaped (enc := enc) (C := Tryd.checked) (os := os) (X := fun w _ => laidMetH Tryd.prog laidL w) false (World.doorLaid Tryd.prog 400 os) #[.agg #[.int .i64 0, .int .i64 0, .int .i64 0, .int .i64 0, .bool false, .bool false, .bool false, .slice none 0 0], .agg #[.int .i64 0, .int .i64 0, .int .i64 0, .int .i64 0, .bool false, .bool false, .bool false, .slice none 0 0]] 8 rfl (World.shaped_of_RefB (by kernel_rfl) (by kernel_rfl)) (by kernel_rfl) (by kernel_rfl) (by kernel_rfl) (door_met os _)) ?_
  intro W base args ds gs before hval0 hW hcnd hsz0 hL _
  have hG := ord_of hL
  have hsz : (DataW.weightsEach Tryd.prog (Tryd.f5.params.toList ++ Rows.optsSameSpec.plain.varTypes Tryd.prog) (ds ++ gs)).all (· ≤ reachBytes) = true := hsz0
  have hval : ∀ (j : Nat) t v, Tryd.f5.params[j]? = some t → args[j]? = some v → Value.okWide Tryd.prog W .any base t v := hval0
  have hW' := hW
  obtain ⟨p, q, hA0, hV, rfl, hfz, hnd⟩ := hW
  have hA : DataW.TrodAll enc Tryd.prog W 0 (fun _ => true) true Tryd.f5.params.toList args.toList ds p := hA0
  rw [Tryd.params5] at hA hval hsz
  obtain ⟨v0, vs0, d0, ds0, p0, q0, hargs, rfl, rfl, h0, r0⟩ := trodAll_cons hA
  obtain ⟨v1, vs1, d1, ds1, p1, q1, rfl, rfl, rfl, h1, r1⟩ := trodAll_cons r0
  obtain ⟨rfl, rfl, rfl⟩ := trodAll_nil r1
  obtain rfl : args = #[v0, v1] := by cases args; simp_all
  obtain ⟨rfl, rfl⟩ := trodVars_none hV
  have k0 := h0
  have lt0 : ∀ x ∈ p0, x.block < W.heap.size := by obtain ⟨m, hm⟩ := k0; exact DataW.trod_lt m _ _ _ hm
  have k1 := h1
  have lt1 : ∀ x ∈ p1, x.block < W.heap.size := by obtain ⟨m, hm⟩ := k1; exact DataW.trod_lt m _ _ _ hm
  obtain ⟨m0, c0, t0, ec0, sd0, ok0, sp0, u0, rs0, parts0, rfl, hdp0, hr0, hw0⟩ := open24 (hval 0 24 v0 rfl rfl) h0
  have z0 : rs0.length * 16 ≤ 140737488351232 := sized_24 hsz (j := 0) rfl (by rw [hdp0]; rfl) hw0
  obtain ⟨m1, c1, t1, ec1, sd1, ok1, sp1, u1, rs1, parts1, rfl, hdp1, hr1, hw1⟩ := open24 (hval 1 24 v1 rfl rfl) h1
  have z1 : rs1.length * 16 ≤ 140737488351232 := sized_24 hsz (j := 1) rfl (by rw [hdp1]; rfl) hw1
  clear hA0 hval0
  refine (walk m0 c0 t0 ec0 sd0 ok0 sp0 u0 rs0 m1 c1 t1 ec1 sd1 ok1 sp1 u1 rs1 W hG hr0 z0 hr1 z1).mono fun e W' ⟨he, bel⟩ => ?_
  subst he
  exact ⟨_, rfl, _, _, _, [], _, [], hW', trodAll_mk1 (shut_bool Tryd.underlying4 _), (trodAll_cons_mk (Below.trod laidOutK (by kernel_rfl) (of_decide_eq_true (by kernel_rfl)) k0 bel lt0) (trodAll_cons_mk (Below.trod laidOutK (by kernel_rfl) (of_decide_eq_true (by kernel_rfl)) k1 bel lt1) trodAll_mk0)), rfl, bel.frame _, fun h => by cases h⟩

theorem over : Rows.optsSameRow.holds Tryd.pinned (OpenSpec.ofChange Rows.optsSameSpec) :=
  OpenClaim.holds_of_wide 5 Tryd.f5 rfl rfl rfl rfl rfl rfl rfl ⟨rfl, rfl, rfl, rfl, rfl⟩ rfl rfl rfl rfl rfl (by kernel_rfl) Tryd.func5 (by kernel_rfl)
    (of_decide_eq_true (by kernel_rfl)) (by unfold Func.isWrapper; first | (rw [if_pos (by decide +kernel)]; kernel_rfl) | (rw [if_neg (by decide +kernel)]; exact ⟨rfl, rfl⟩))
    (fun os started H enc _ => lifted os started H enc)

end Go.Proofs.YtacokljohbjnjaaDoor.optsSame
namespace Go.Proofs.YtacokljohbjnjaaDoor
open Go
theorem optsSame_card_holds : Rows.OptsSameCardSaid :=
  Claim7.holds_tied_plain_at .later [] [.data] true (true, "b329e8443bf405fc7ec9c7f296bf5b15ced440c224d2249f857770d22ce70a43") false
    optsSame.over (fun _ h => by cases h) (by kernel_rfl) (fun _ h => by cases h) optsSame_row_tie rfl ⟨rfl, rfl⟩ (by kernel_rfl) rfl
    (fun f fn hf hfn => by
      obtain rfl : f = 5 := Option.some.inj ((show Tryd.prog.funcNamed "sternpost/sternpostlaw07.OptsSame" = some 5 by kernel_rfl).symm.trans hf) |>.symm
      obtain rfl : fn = Tryd.f5 := (Option.some.inj (Tryd.func5.symm.trans hfn)).symm
      exact ⟨by kernel_rfl, fun j t ht => by
        rw [Tryd.params5] at ht
        have hm : t ∈ [24, 24] := by simpa using Array.mem_of_getElem? ht
        have hall : ([24, 24].all fun u => !Tryd.prog.wantsStandIn u) = true := by kernel_rfl
        exact (show Tryd.prog.wantsStandIn t = false by simpa using List.all_eq_true.1 hall t hm)⟩)
    (by kernel_rfl)
end Go.Proofs.YtacokljohbjnjaaDoor
