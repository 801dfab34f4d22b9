/- For all options and all bytes behind: what stands behind a byte 0 that ends the bytes of options does not matter, nor does a byte 1 between; and what came in reads as it did. Conditions: the card's own alone (the order of the kinds is what the program's text lays). -/
import Derived.Test.YtacokljohbjnjaaDoorOg
import Derived.Test.YtacokljohbjnjaaDoorOh
import Derived.Test.YtacokljohbjnjaaDoorGx
import Derived.Test.YtacokljohbjnjaaDoorPc
import Derived.Test.YtacokljohbjnjaaDoorFr
import Derived.Test.YtacokljohbjnjaaDoorTie
import Derived.Test.YtacokljohbjnjaaDoorCards
import Derived.SevenTiedAt
import Derived.Stop.Joined
namespace Go.Proofs.YtacokljohbjnjaaDoor.optsTail
open Go.ChangeShapes Go.WideShapes Go.ChangeAt Go.RowKit
open Go.ChangeMaps (open_string)
set_option linter.unusedVariables false

-- WALK
theorem dec_some (s : ByteArray) (w : World) (hG : Ord w) (hs : s.size ≤ 1125899906842624) (o : Op) (h : decO s.data.toList = some o) : Calls Tryd.prog 20 #[.string s] w fun en w' => ∃ v, en = .returned (.tuple #[.agg #[.int .i64 o.m, .int .i64 o.c, .int .i64 o.t, .int .i64 o.ec, .bool o.sd, .bool o.ok, .bool o.sp, v], .int .i64 0]) ∧ w'.ownsRow w.heap.size 35 2 v o.rs.length (flatR o.rs) ∧ Below w.heap.size w w' := by
  have := dec_any s w hG hs
  rw [h] at this
  exact this
theorem dec_none (s : ByteArray) (w : World) (hG : Ord w) (hs : s.size ≤ 1125899906842624) (h : decO s.data.toList = none) : Calls Tryd.prog 20 #[.string s] w fun en w' => en = .returned (.tuple #[.agg #[.int .i64 0, .int .i64 0, .int .i64 0, .int .i64 0, .bool false, .bool false, .bool false, .slice none 0 0], .int .i64 70]) ∧ Below w.heap.size w w' := by
  have := dec_any s w hG hs
  rw [h] at this
  exact this
set_option maxRecDepth 100000 in
set_option maxHeartbeats 8000000 in
theorem walk (m c t ec : Int) (sd ok sp : Bool) (v : Value) (rs : List (Int × Int)) (tl : ByteArray) (w : World) (hG : Ord w) (hv : Rgs w v rs) (hz0 : rs.length * 16 ≤ 140737488351232) (hs : tl.size ≤ 140737488351232) :
    Calls Tryd.prog 8 #[.agg #[.int .i64 m, .int .i64 c, .int .i64 t, .int .i64 ec, .bool sd, .bool ok, .bool sp, v], .string tl] w fun e w' => e = .returned (.bool true) ∧ Below w.heap.size w w' := by
  obtain ⟨a, cap, e1, -⟩ := id hv
  subst e1
  have hs2 : (tl.size : Int) ≤ 140737488351232 := by omega
  have HN : Hid (rs.length ≤ 17592186044416) := by show _ ≤ _; omega
  have hA := At.box w #[.int .i64 m, .int .i64 c, .int .i64 t, .int .i64 ec, .bool sd, .bool ok, .bool sp, (.slice a rs.length cap)] 24
  have hl := bel1 w (.cells #[.int .i64 m, .int .i64 c, .int .i64 t, .int .i64 ec, .bool sd, .bool ok, .bool sp, (.slice a rs.length cap)] 24)
  obtain ⟨⟨c0, c1, c2, c3, c4, c5, c6, c7⟩, -, -⟩ := hA.eight
  rcases Bool.eq_false_or_eq_true (mayO m c t ec sd ok sp rs) with hm | hm
  · have hz := encO_size m c t ec sd ok sp rs
    have h40 := (mayO_t hm).2.2.2.2.2.2.1
    have HE := fun W h1 h2 => enc_t m c t ec sd ok sp (.slice a rs.length cap) rs W h1 hm h2
    have HDX0 := dec_enc m c t ec sd ok sp rs hm
    have HZE0 : sameO 0 0 0 0 false false false [] m c t ec sd ok sp rs = true → (encO m c t ec sd ok sp rs).size = 0 := by
      intro h
      obtain ⟨rfl, rfl, rfl, rfl, rfl, rfl, rfl, rfl⟩ := sameO_eq h
      rw [hz]; decide
    have HEH : Hid (∀ W, Rgs W (.slice a rs.length cap) rs → Ord W → Calls Tryd.prog 10 #[.agg #[.int .i64 m, .int .i64 c, .int .i64 t, .int .i64 ec, .bool sd, .bool ok, .bool sp, (.slice a rs.length cap)]] W fun e w' => e = .returned (.tuple #[.string (encO m c t ec sd ok sp rs), .int .i64 0]) ∧ Below W.heap.size W w') := HE
    have HDXH : Hid (decO (encO m c t ec sd ok sp rs).data.toList = some ⟨m, c, t, ec, sd, ok, sp, rs⟩) := HDX0
    have HZEH : Hid (sameO 0 0 0 0 false false false [] m c t ec sd ok sp rs = true → (encO m c t ec sd ok sp rs).size = 0) := HZE0
    rw [← hz] at h40
    clear HE HDX0 HZE0 hz hm
    generalize encO m c t ec sd ok sp rs = E0 at *
    go_enter Tryd.func8, Tryd.ntmps8
    go_wp2_with fail
    refine (works_any _ (hG.later hl)).mono ?_
    rintro en w0 ⟨rfl, hb⟩
    replace hl := bt hl hb
    replace hA := hA.later hb
    clear hb c0 c1 c2 c3 c4 c5 c6 c7
    obtain ⟨⟨c0, c1, c2, c3, c4, c5, c6, c7⟩, -, -⟩ := hA.eight
    go_wp2_with fail
    refine (HEH.out _ (hv.later hl) (hG.later hl)).mono ?_
    rintro en w1 ⟨rfl, hb⟩
    replace hl := bt hl hb
    replace hA := hA.later hb
    clear hb c0 c1 c2 c3 c4 c5 c6 c7
    obtain ⟨⟨c0, c1, c2, c3, c4, c5, c6, c7⟩, -, -⟩ := hA.eight
    have HL1 : Hid (Below w.heap.size w w1) := hl
    have HA : Hid (At w1 w.heap.size #[.int .i64 m, .int .i64 c, .int .i64 t, .int .i64 ec, .bool sd, .bool ok, .bool sp, (.slice a rs.length cap)]) := hA
    have HV : Hid (Rgs w1 (.slice a rs.length cap) rs) := hv.later hl
    have HG : Hid (Ord w1) := hG.later hl
    clear hl hA hv hG c0 c1 c2 c3 c4 c5 c6 c7
    go_wp2
    go_loopw [5] (fun sv W => ∃ x : ByteArray, sv = .string x ∧ x.size ≤ 40 ∧ decO x.data.toList = some ⟨m, c, t, ec, sd, ok, sp, rs⟩ ∧ (sameO 0 0 0 0 false false false [] m c t ec sd ok sp rs = true → x.size = 0) ∧ Below w1.heap.size w1 W) (fun sv _ => szOf sv)
    case atStart => exact ⟨E0, rfl, h40, HDXH.out, HZEH.out, Below.refl _ _⟩
    case round =>
      obtain ⟨x, rfl, hx40, hdx, hze, hbl⟩ := hrel
      have HDX : Hid (decO x.data.toList = some ⟨m, c, t, ec, sd, ok, sp, rs⟩) := hdx
      have HZE : Hid (sameO 0 0 0 0 false false false [] m c t ec sd ok sp rs = true → x.size = 0) := hze
      clear hdx hze h40 HDXH HZEH HEH
      have hx40' : (x.size : Int) ≤ 40 := by omega
      by_cases hx0 : x.size = 0
      · have hx0' : ¬ (0 : Int) < (x.size : Int) := by omega
        go_wp2
        go_quiet (fail)
        have hcur := below_drewN (Below.refl wr.heap.size wr) nq
        have hxs : (x ++ (⟨#[1, 0]⟩ : ByteArray)).size = x.size + 2 := by rw [ByteArray.size_append]; rfl
        have HXL : Hid ((x ++ (⟨#[1, 0]⟩ : ByteArray)).data.toList = x.data.toList ++ [1, 0]) := app_data _ _
        have r1 : ∀ W, (Op.stringOp .add x ⟨#[1, 0]⟩).run Tryd.prog W = .ok (.string (x ++ ⟨#[1, 0]⟩)) W := fun W => run_string_add_sum W _ _ (by show _ + 2 ≤ _; omega)
        obtain ⟨z, hz⟩ : ∃ z, z = x ++ (⟨#[1, 0]⟩ : ByteArray) := ⟨_, rfl⟩
        rw [← hz] at r1 hxs HXL
        clear hz
        have hz42 : (z.size : Int) ≤ 42 := by omega
        by_cases hbig : 40 < z.size
        · have hbig' : (40 : Int) < (z.size : Int) := by omega
          clear hxs
          go_wp2
          go_ret
          exact ⟨rfl, bt HL1.out (bt hbl hcur)⟩
        · have hbig' : (z.size : Int) ≤ 40 := by omega
          have HDD : Hid (∀ (T : ByteArray), z.size + T.size ≤ 40 → ∀ W, Ord W → Calls Tryd.prog 20 #[.string (z ++ T)] W fun en w' => ∃ v, en = .returned (.tuple #[.agg #[.int .i64 m, .int .i64 c, .int .i64 t, .int .i64 ec, .bool sd, .bool ok, .bool sp, v], .int .i64 0]) ∧ w'.ownsRow W.heap.size 35 2 v rs.length (flatR rs) ∧ Below W.heap.size W w') := fun T hT W hG => by
            refine dec_some (z ++ T) W hG (by rw [ByteArray.size_append]; omega) ⟨m, c, t, ec, sd, ok, sp, rs⟩ ?_
            rw [app_data, HXL.out, List.append_assoc]
            exact dec_tail x.data.toList T.data.toList _ HDX.out (by rw [toList_size, toList_size]; omega)
          have HZX : Hid (z.size = x.size + 2) := hxs
          clear hxs
          have hT : (tl.extract 0 (min (tl.size : Int) (40 - (z.size : Int))).toNat).size + z.size ≤ 40 := by rw [ByteArray.size_extract]; omega
          have r2 : ∀ W, (Op.stringOp .add z (tl.extract 0 (min (tl.size : Int) (40 - (z.size : Int))).toNat)).run Tryd.prog W = .ok (.string (z ++ tl.extract 0 (min (tl.size : Int) (40 - (z.size : Int))).toNat)) W := fun W => run_string_add_sum W _ _ (by omega)
          have HT : Hid (z.size + (tl.extract 0 (min (tl.size : Int) (40 - (z.size : Int))).toNat).size ≤ 40) := by show _ ≤ _; omega
          clear hT
          go_wp2_with fail
          refine (HDD.out _ HT.out _ (HG.out.later (bt hbl hcur))).mono ?_
          rintro en w8 ⟨v8, rfl, ho, hb⟩
          obtain ⟨a8, cap8, hvv, -, -⟩ := own_slice ho
          have hvv' : v8 = .slice a8 rs.length cap8 := hvv
          subst hvv'
          have hbx := bel1 w8 (.cells #[.int .i64 m, .int .i64 c, .int .i64 t, .int .i64 ec, .bool sd, .bool ok, .bool sp, (.slice a8 rs.length cap8)] 24)
          obtain ⟨⟨d0, d1, d2, d3, d4, d5, d6, d7⟩, -, -⟩ := (At.box w8 #[.int .i64 m, .int .i64 c, .int .i64 t, .int .i64 ec, .bool sd, .bool ok, .bool sp, (.slice a8 rs.length cap8)] 24).eight
          have hbz := bt (bt (bt hbl hcur) hb) hbx
          obtain ⟨⟨c0, c1, c2, c3, c4, c5, c6, c7⟩, -, -⟩ := (HA.out.later hbz).eight
          have hsm := same_any m c t ec sd ok sp (.slice a8 rs.length cap8) rs m c t ec sd ok sp (.slice a rs.length cap) rs _ ((Rgs.of_own ho).later hbx) (HV.out.later hbz) HN.out HN.out
          rw [sameO_self] at hsm
          clear hvv hbx ho
          go_wp2_with fail
          refine hsm.mono ?_
          rintro en w9 ⟨rfl, hb9⟩
          go_wp2
          go_ret
          exact ⟨rfl, bt HL1.out (bt hbz hb9)⟩
      · have hx0' : (0 : Int) < (x.size : Int) := by omega
        have hb3 : (1 : Int) ≤ (x.size : Int) := by omega
        obtain ⟨LB, hLB⟩ : ∃ LB : Nat, LB = (x[x.size - 1]'(by omega)).toNat := ⟨_, rfl⟩
        have hA2 : ((x[x.size - 1]'(by omega)).toNat : Int) = (LB : Int) := by rw [hLB]
        have hA1 : ((x[((x.size : Int) - 1).toNat]'(by omega)).toNat : Int) = (LB : Int) := by
          rw [← hA2]
          congr 3
          omega
        clear hLB
        by_cases hb0 : LB = 0
        · subst hb0
          obtain ⟨y, hy⟩ : ∃ y, y = x.extract 0 (x.size - 1) := ⟨_, rfl⟩
          have hys : y.size = x.size - 1 := by rw [hy, ByteArray.size_extract]; omega
          have HY : Hid (y.size ≤ 1125899906842624) := by show _ ≤ _; omega
          obtain ⟨X, hX⟩ : ∃ X, X = gotO y.data.toList := ⟨_, rfl⟩
          have HX : Hid (gotO y.data.toList = X) := hX.symm
          have hX4 : X.rs.length ≤ 4 := hX ▸ gotO_short _
          obtain ⟨SB, hSB⟩ : ∃ SB, SB = sameO X.m X.c X.t X.ec X.sd X.ok X.sp X.rs m c t ec sd ok sp rs := ⟨_, rfl⟩
          have HSM : Hid (∀ W u, Rgs W u X.rs → Rgs W (.slice a rs.length cap) rs → Calls Tryd.prog 22 #[.agg #[.int .i64 X.m, .int .i64 X.c, .int .i64 X.t, .int .i64 X.ec, .bool X.sd, .bool X.ok, .bool X.sp, u], .agg #[.int .i64 m, .int .i64 c, .int .i64 t, .int .i64 ec, .bool sd, .bool ok, .bool sp, (.slice a rs.length cap)]] W fun e w' => e = .returned (.bool SB) ∧ Below W.heap.size W w') := by
            intro W u h1 h2
            rw [hSB]
            exact same_any _ _ _ _ _ _ _ _ X.rs m c t ec sd ok sp _ rs W h1 h2 (by omega) HN.out
          have HNX : Hid (SB = true → decO y.data.toList = some ⟨m, c, t, ec, sd, ok, sp, rs⟩) := by
            intro h
            rw [hSB, hX] at h
            unfold gotO at h
            cases hd : decO y.data.toList with
            | none =>
              rw [hd] at h
              have := HZE.out h
              omega
            | some Y =>
              rw [hd] at h
              obtain ⟨p1, p2, p3, p4, p5, p6, p7, p8⟩ := sameO_eq h
              obtain ⟨m', c', t', ec', sd', ok', sp', rs'⟩ := Y
              simp only [Option.getD_some] at p1 p2 p3 p4 p5 p6 p7 p8
              subst p1 p2 p3 p4 p5 p6 p7 p8
              rfl
          have HYX : Hid (y = x.extract 0 (x.size - 1) ∧ y.size = x.size - 1) := ⟨hy, hys⟩
          clear hX hSB hys hy
          go_wp2
          refine wp_region_any (by kernel_rfl) ?_
          refine region_facts (fun W => Below wr.heap.size wr W) (GE (fun i => match i with | 0 => .string x | 1 => .int .i64 (x.size : Int) | 2 => .bool true | 3 => .bool true | 4 => .string x | 5 => .string x | 6 => .int .i64 (x.size : Int) | 7 => .int .i64 ((x.size : Int) - 1) | 8 => .int .u8 0 | 9 => .bool true | 10 => .bool true | 11 => .bool true | 12 => .string x | 13 => .string x | 14 => .int .i64 (x.size : Int) | 15 => .int .i64 ((x.size : Int) - 1) | 16 => .string y | 18 => .agg #[.int .i64 m, .int .i64 c, .int .i64 t, .int .i64 ec, .bool sd, .bool ok, .bool sp, (.slice a rs.length cap)] | 19 => .bool SB | 20 => .bool SB | _ => undef) (fun i => match i with | 17 => some (fun v W => ∃ u, v = .agg #[.int .i64 X.m, .int .i64 X.c, .int .i64 X.t, .int .i64 X.ec, .bool X.sd, .bool X.ok, .bool X.sp, u] ∧ Rgs W u X.rs) | _ => none)) (n := 72) (by kernel_rfl) rfl (by kernel_rfl) (GE_later _ _ (by
            intro i F hF v w w' h hb
            match i, hF with
            | 17, hF =>
              obtain rfl := Option.some.inj hF
              obtain ⟨u, hu, hr⟩ := h
              exact ⟨u, hu, hr.later hb⟩)) ?_ ?_ ((Below.refl _ _).drew) (Nat.le_refl _)
          · skip
            refine ⟨?_, ?_, ?_, ?_, ?_, ?_, ?_, ?_, ?_, ?_, ?_, ?_, ?_, ?_, ?_, ?_, ?_, ?_, ?_, ?_, ?_, trivial⟩
            · intro ac w1 hS hT hB hD K hK
              rw [if_pos (by rfl)]
              have d5 : ac.tmps.getD 5 undef = .string x := hB 5 (by kernel_rfl)
              clear hB hD hT
              go_simp
              exact hK _ _ hS (Below.refl _ _) rfl
            · intro ac w1 hS hT hB hD K hK
              rw [if_pos (by rfl)]
              have d20 : ac.tmps.getD 20 undef = .string x := hD ⟨0, .data⟩ (by simp) rfl _ 20 rfl rfl
              clear hB hD hT
              go_simp
              exact hK _ _ hS (Below.refl _ _) rfl
            · intro ac w1 hS hT hB hD K hK
              rw [if_pos (by rfl)]
              have d21 : ac.tmps.getD 21 undef = .int .i64 (x.size : Int) := hD ⟨1, .data⟩ (by simp) rfl _ 21 rfl rfl
              clear hB hD hT
              have hq0 : 0 < x.size := by omega
              go_simp
              exact hK _ _ hS (Below.refl _ _) rfl
            · intro ac w1 hS hT hB hD K hK
              rw [if_pos (by rfl)]
              have d22 : ac.tmps.getD 22 undef = .bool true := hD ⟨2, .data⟩ (by simp) rfl _ 22 rfl rfl
              clear hB hD hT
              go_simp
              exact hK _ _ hS (Below.refl _ _) rfl
            · intro ac w1 hS hT hB hD K hK
              have g23 : ac.tmps.getD 23 undef = .bool true := hD ⟨3, .guard⟩ (by simp) rfl _ 23 rfl rfl
              rw [if_pos (want_t (j := 3) (d := 23) rfl rfl g23)]
              clear g23
              have d5 : ac.tmps.getD 5 undef = .string x := hB 5 (by kernel_rfl)
              clear hB hD hT
              go_simp
              exact hK _ _ hS (Below.refl _ _) rfl
            · intro ac w1 hS hT hB hD K hK
              have g23 : ac.tmps.getD 23 undef = .bool true := hD ⟨3, .guard⟩ (by simp) rfl _ 23 rfl rfl
              rw [if_pos (want_t (j := 3) (d := 23) rfl rfl g23)]
              clear g23
              have d5 : ac.tmps.getD 5 undef = .string x := hB 5 (by kernel_rfl)
              clear hB hD hT
              go_simp
              exact hK _ _ hS (Below.refl _ _) rfl
            · intro ac w1 hS hT hB hD K hK
              have g23 : ac.tmps.getD 23 undef = .bool true := hD ⟨3, .guard⟩ (by simp) rfl _ 23 rfl rfl
              rw [if_pos (want_t (j := 3) (d := 23) rfl rfl g23)]
              clear g23
              have d25 : ac.tmps.getD 25 undef = .string x := hD ⟨5, .data⟩ (by simp) rfl _ 25 rfl rfl
              clear hB hD hT
              go_simp
              exact hK _ _ hS (Below.refl _ _) rfl
            · intro ac w1 hS hT hB hD K hK
              have g23 : ac.tmps.getD 23 undef = .bool true := hD ⟨3, .guard⟩ (by simp) rfl _ 23 rfl rfl
              rw [if_pos (want_t (j := 3) (d := 23) rfl rfl g23)]
              clear g23
              have d26 : ac.tmps.getD 26 undef = .int .i64 (x.size : Int) := hD ⟨6, .data⟩ (by simp) rfl _ 26 rfl rfl
              clear hB hD hT
              have hw1 : IntKind.i64.wrap ((x.size : Int) - 1) = (x.size : Int) - 1 := by rw [IntKind.wrap_i64]; omega
              go_simp
              exact hK _ _ hS (Below.refl _ _) rfl
            · intro ac w1 hS hT hB hD K hK
              have g23 : ac.tmps.getD 23 undef = .bool true := hD ⟨3, .guard⟩ (by simp) rfl _ 23 rfl rfl
              rw [if_pos (want_t (j := 3) (d := 23) rfl rfl g23)]
              clear g23
              have d24 : ac.tmps.getD 24 undef = .string x := hD ⟨4, .data⟩ (by simp) rfl _ 24 rfl rfl
              have d27 : ac.tmps.getD 27 undef = .int .i64 ((x.size : Int) - 1) := hD ⟨7, .data⟩ (by simp) rfl _ 27 rfl rfl
              clear hB hD hT
              have hb1 : (0 : Int) ≤ (x.size : Int) - 1 := by omega
              have hb2 : (x.size : Int) - 1 < (x.size : Int) := by omega
              go_simp
              first | exact hK _ _ hS (Below.refl _ _) rfl | exact hK _ _ hS (Below.refl _ _) (congrArg (Value.int .u8) hA1) | exact hK _ _ hS (Below.refl _ _) (congrArg (Value.int .u8) hA2)
            · intro ac w1 hS hT hB hD K hK
              have g23 : ac.tmps.getD 23 undef = .bool true := hD ⟨3, .guard⟩ (by simp) rfl _ 23 rfl rfl
              rw [if_pos (want_t (j := 3) (d := 23) rfl rfl g23)]
              clear g23
              have d28 : ac.tmps.getD 28 undef = .int .u8 0 := hD ⟨8, .data⟩ (by simp) rfl _ 28 rfl rfl
              clear hB hD hT
              go_simp
              exact hK _ _ hS (Below.refl _ _) rfl
            · intro ac w1 hS hT hB hD K hK
              rw [if_pos (by rfl)]
              have d23 : ac.tmps.getD 23 undef = .bool true := hD ⟨3, .data⟩ (by simp) rfl _ 23 rfl rfl
              have d29 : ac.tmps.getD 29 undef = .bool true := hD ⟨9, .data⟩ (by simp) rfl _ 29 rfl rfl
              clear hB hD hT
              go_simp
              exact hK _ _ hS (Below.refl _ _) rfl
            · intro ac w1 hS hT hB hD K hK
              rw [if_pos (by rfl)]
              have d30 : ac.tmps.getD 30 undef = .bool true := hD ⟨10, .data⟩ (by simp) rfl _ 30 rfl rfl
              clear hB hD hT
              go_simp
              exact hK _ _ hS (Below.refl _ _) rfl
            · intro ac w1 hS hT hB hD K hK
              have g31 : ac.tmps.getD 31 undef = .bool true := hD ⟨11, .guard⟩ (by simp) rfl _ 31 rfl rfl
              rw [if_pos (want_t (j := 11) (d := 31) rfl rfl g31)]
              clear g31
              have d5 : ac.tmps.getD 5 undef = .string x := hB 5 (by kernel_rfl)
              clear hB hD hT
              go_simp
              exact hK _ _ hS (Below.refl _ _) rfl
            · intro ac w1 hS hT hB hD K hK
              have g31 : ac.tmps.getD 31 undef = .bool true := hD ⟨11, .guard⟩ (by simp) rfl _ 31 rfl rfl
              rw [if_pos (want_t (j := 11) (d := 31) rfl rfl g31)]
              clear g31
              have d5 : ac.tmps.getD 5 undef = .string x := hB 5 (by kernel_rfl)
              clear hB hD hT
              go_simp
              exact hK _ _ hS (Below.refl _ _) rfl
            · intro ac w1 hS hT hB hD K hK
              have g31 : ac.tmps.getD 31 undef = .bool true := hD ⟨11, .guard⟩ (by simp) rfl _ 31 rfl rfl
              rw [if_pos (want_t (j := 11) (d := 31) rfl rfl g31)]
              clear g31
              have d33 : ac.tmps.getD 33 undef = .string x := hD ⟨13, .data⟩ (by simp) rfl _ 33 rfl rfl
              clear hB hD hT
              go_simp
              exact hK _ _ hS (Below.refl _ _) rfl
            · intro ac w1 hS hT hB hD K hK
              have g31 : ac.tmps.getD 31 undef = .bool true := hD ⟨11, .guard⟩ (by simp) rfl _ 31 rfl rfl
              rw [if_pos (want_t (j := 11) (d := 31) rfl rfl g31)]
              clear g31
              have d34 : ac.tmps.getD 34 undef = .int .i64 (x.size : Int) := hD ⟨14, .data⟩ (by simp) rfl _ 34 rfl rfl
              clear hB hD hT
              have hw1 : IntKind.i64.wrap ((x.size : Int) - 1) = (x.size : Int) - 1 := by rw [IntKind.wrap_i64]; omega
              go_simp
              exact hK _ _ hS (Below.refl _ _) rfl
            · intro ac w1 hS hT hB hD K hK
              have g31 : ac.tmps.getD 31 undef = .bool true := hD ⟨11, .guard⟩ (by simp) rfl _ 31 rfl rfl
              rw [if_pos (want_t (j := 11) (d := 31) rfl rfl g31)]
              clear g31
              have d32 : ac.tmps.getD 32 undef = .string x := hD ⟨12, .data⟩ (by simp) rfl _ 32 rfl rfl
              have d35 : ac.tmps.getD 35 undef = .int .i64 ((x.size : Int) - 1) := hD ⟨15, .data⟩ (by simp) rfl _ 35 rfl rfl
              clear hB hD hT
              have hb1 : (0 : Int) ≤ (x.size : Int) - 1 := by omega
              have hb2 : (x.size : Int) - 1 ≤ (x.size : Int) := by omega
              go_simp
              exact hK _ _ hS (Below.refl _ _) (congrArg Value.string (by rw [HYX.out.1] <;> first | rfl | (congr 1; omega)))
            · intro ac w1 hS hT hB hD K hK
              have g31 : ac.tmps.getD 31 undef = .bool true := hD ⟨11, .guard⟩ (by simp) rfl _ 31 rfl rfl
              rw [if_pos (want_t (j := 11) (d := 31) rfl rfl g31)]
              clear g31
              have d36 : ac.tmps.getD 36 undef = .string y := hD ⟨16, .data⟩ (by simp) rfl _ 36 rfl rfl
              clear hB hD hT
              go_simp
              have hq := lread_any y _ (HG.out.later (bt hbl hS)) HY.out
              rw [HX.out] at hq
              refine hq.mono ?_
              rintro e w' ⟨u, rfl, hr, hb⟩
              exact hK _ _ (bt hS hb) hb ⟨u, rfl, hr⟩
            · intro ac w1 hS hT hB hD K hK
              have g31 : ac.tmps.getD 31 undef = .bool true := hD ⟨11, .guard⟩ (by simp) rfl _ 31 rfl rfl
              rw [if_pos (want_t (j := 11) (d := 31) rfl rfl g31)]
              clear g31
              have d2 : ac.tmps.getD 2 undef = .pointer (some ⟨w.heap.size, 0, none⟩) := hB 2 (by kernel_rfl)
              clear hB hD hT
              have hc := (HA.out.later (bt hbl hS)).eight.1
              go_simp
              exact hK _ _ hS (Below.refl _ _) rfl
            · intro ac w1 hS hT hB hD K hK
              have g31 : ac.tmps.getD 31 undef = .bool true := hD ⟨11, .guard⟩ (by simp) rfl _ 31 rfl rfl
              rw [if_pos (want_t (j := 11) (d := 31) rfl rfl g31)]
              clear g31
              obtain ⟨u, d37, hu⟩ := hD ⟨17, .data⟩ (by simp) rfl _ 37 rfl rfl
              have d38 : ac.tmps.getD 38 undef = .agg #[.int .i64 m, .int .i64 c, .int .i64 t, .int .i64 ec, .bool sd, .bool ok, .bool sp, (.slice a rs.length cap)] := hD ⟨18, .data⟩ (by simp) rfl _ 38 rfl rfl
              clear hB hD hT
              go_simp
              refine (HSM.out _ u hu (HV.out.later (bt hbl hS))).mono ?_
              rintro e w' ⟨rfl, hb⟩
              exact hK _ _ (bt hS hb) hb rfl
            · intro ac w1 hS hT hB hD K hK
              rw [if_pos (by rfl)]
              have d31 : ac.tmps.getD 31 undef = .bool true := hD ⟨11, .data⟩ (by simp) rfl _ 31 rfl rfl
              have d39 : ac.tmps.getD 39 undef = .bool SB := hD ⟨19, .data⟩ (by simp) rfl _ 39 rfl rfl
              clear hB hD hT
              go_simp
              exact hK _ _ hS (Below.refl _ _) rfl
          · intro ac w6 hcur hT hdf hB hF
            obtain ⟨⟨l⟩, df⟩ := ac
            match l, hT with
            | x0 :: x1 :: x2 :: x3 :: x4 :: x5 :: x6 :: x7 :: x8 :: x9 :: x10 :: x11 :: x12 :: x13 :: x14 :: x15 :: x16 :: x17 :: x18 :: x19 :: x20 :: x21 :: x22 :: x23 :: x24 :: x25 :: x26 :: x27 :: x28 :: x29 :: x30 :: x31 :: x32 :: x33 :: x34 :: x35 :: x36 :: x37 :: x38 :: x39 :: x40 :: x41 :: x42 :: x43 :: x44 :: x45 :: x46 :: x47 :: x48 :: x49 :: x50 :: x51 :: x52 :: x53 :: x54 :: x55 :: x56 :: x57 :: x58 :: x59 :: x60 :: x61 :: x62 :: x63 :: x64 :: x65 :: x66 :: x67 :: x68 :: x69 :: x70 :: x71 :: [], _ =>
              have s0 : x0 = .agg #[.int .i64 m, .int .i64 c, .int .i64 t, .int .i64 ec, .bool sd, .bool ok, .bool sp, (.slice a rs.length cap)] := hB 0 (by kernel_rfl)
              have s1 : x1 = .string tl := hB 1 (by kernel_rfl)
              have s2 : x2 = .pointer (some ⟨w.heap.size, 0, none⟩) := hB 2 (by kernel_rfl)
              have s3 : x3 = undef := hB 3 (by kernel_rfl)
              have s4 : x4 = .bool false := hB 4 (by kernel_rfl)
              have s5 : x5 = .string x := hB 5 (by kernel_rfl)
              have s6 : x6 = .int .i64 0 := hB 6 (by kernel_rfl)
              have s7 : x7 = undef := hB 7 (by kernel_rfl)
              have s8 : x8 = undef := hB 8 (by kernel_rfl)
              have s9 : x9 = .bool true := hB 9 (by kernel_rfl)
              have s10 : x10 = .bool false := hB 10 (by kernel_rfl)
              have s11 : x11 = .tuple #[.string E0, .int .i64 0] := hB 11 (by kernel_rfl)
              have s12 : x12 = .agg #[.int .i64 m, .int .i64 c, .int .i64 t, .int .i64 ec, .bool sd, .bool ok, .bool sp, (.slice a rs.length cap)] := hB 12 (by kernel_rfl)
              have s13 : x13 = .tuple #[.string E0, .int .i64 0] := hB 13 (by kernel_rfl)
              have s14 : x14 = .string E0 := hB 14 (by kernel_rfl)
              have s15 : x15 = .int .i64 0 := hB 15 (by kernel_rfl)
              have s16 : x16 = .int .i64 0 := hB 16 (by kernel_rfl)
              have s17 : x17 = .bool false := hB 17 (by kernel_rfl)
              have s18 : x18 = undef := hB 18 (by kernel_rfl)
              have s19 : x19 = undef := hB 19 (by kernel_rfl)
              have s46 : x46 = undef := hB 46 (by kernel_rfl)
              have s47 : x47 = undef := hB 47 (by kernel_rfl)
              have s48 : x48 = undef := hB 48 (by kernel_rfl)
              have s49 : x49 = undef := hB 49 (by kernel_rfl)
              have s50 : x50 = undef := hB 50 (by kernel_rfl)
              have s51 : x51 = undef := hB 51 (by kernel_rfl)
              have s52 : x52 = undef := hB 52 (by kernel_rfl)
              have s53 : x53 = undef := hB 53 (by kernel_rfl)
              have s54 : x54 = undef := hB 54 (by kernel_rfl)
              have s55 : x55 = undef := hB 55 (by kernel_rfl)
              have s56 : x56 = undef := hB 56 (by kernel_rfl)
              have s57 : x57 = undef := hB 57 (by kernel_rfl)
              have s58 : x58 = undef := hB 58 (by kernel_rfl)
              have s59 : x59 = undef := hB 59 (by kernel_rfl)
              have s60 : x60 = undef := hB 60 (by kernel_rfl)
              have s61 : x61 = undef := hB 61 (by kernel_rfl)
              have s62 : x62 = undef := hB 62 (by kernel_rfl)
              have s63 : x63 = undef := hB 63 (by kernel_rfl)
              have s64 : x64 = undef := hB 64 (by kernel_rfl)
              have s65 : x65 = undef := hB 65 (by kernel_rfl)
              have s66 : x66 = undef := hB 66 (by kernel_rfl)
              have s67 : x67 = undef := hB 67 (by kernel_rfl)
              have s68 : x68 = undef := hB 68 (by kernel_rfl)
              have s69 : x69 = undef := hB 69 (by kernel_rfl)
              have s70 : x70 = undef := hB 70 (by kernel_rfl)
              have s71 : x71 = undef := hB 71 (by kernel_rfl)
              subst s0 s1 s2 s3 s4 s5 s6 s7 s8 s9 s10 s11 s12 s13 s14 s15 s16 s17 s18 s19 s46 s47 s48 s49 s50 s51 s52 s53 s54 s55 s56 s57 s58 s59 s60 s61 s62 s63 s64 s65 s66 s67 s68 s69 s70 s71
              have s40 : x40 = .bool SB := hF 20 _ 40 rfl rfl
              have sdf : df = [] := hdf
              subst s40 sdf
              clear hB hF hT hA1 hA2
              cases SB
              · clear HNX HSM
                have hxs : (x ++ (⟨#[1, 0]⟩ : ByteArray)).size = x.size + 2 := by rw [ByteArray.size_append]; rfl
                have HXL : Hid ((x ++ (⟨#[1, 0]⟩ : ByteArray)).data.toList = x.data.toList ++ [1, 0]) := app_data _ _
                have r1 : ∀ W, (Op.stringOp .add x ⟨#[1, 0]⟩).run Tryd.prog W = .ok (.string (x ++ ⟨#[1, 0]⟩)) W := fun W => run_string_add_sum W _ _ (by show _ + 2 ≤ _; omega)
                obtain ⟨z, hz⟩ : ∃ z, z = x ++ (⟨#[1, 0]⟩ : ByteArray) := ⟨_, rfl⟩
                rw [← hz] at r1 hxs HXL
                clear hz
                have hz42 : (z.size : Int) ≤ 42 := by omega
                by_cases hbig : 40 < z.size
                · have hbig' : (40 : Int) < (z.size : Int) := by omega
                  clear hxs
                  go_wp2
                  go_ret
                  exact ⟨rfl, bt HL1.out (bt hbl hcur)⟩
                · have hbig' : (z.size : Int) ≤ 40 := by omega
                  have HDD : Hid (∀ (T : ByteArray), z.size + T.size ≤ 40 → ∀ W, Ord W → Calls Tryd.prog 20 #[.string (z ++ T)] W fun en w' => ∃ v, en = .returned (.tuple #[.agg #[.int .i64 m, .int .i64 c, .int .i64 t, .int .i64 ec, .bool sd, .bool ok, .bool sp, v], .int .i64 0]) ∧ w'.ownsRow W.heap.size 35 2 v rs.length (flatR rs) ∧ Below W.heap.size W w') := fun T hT W hG => by
                    refine dec_some (z ++ T) W hG (by rw [ByteArray.size_append]; omega) ⟨m, c, t, ec, sd, ok, sp, rs⟩ ?_
                    rw [app_data, HXL.out, List.append_assoc]
                    exact dec_tail x.data.toList T.data.toList _ HDX.out (by rw [toList_size, toList_size]; omega)
                  have HZX : Hid (z.size = x.size + 2) := hxs
                  clear hxs
                  have hT : (tl.extract 0 (min (tl.size : Int) (40 - (z.size : Int))).toNat).size + z.size ≤ 40 := by rw [ByteArray.size_extract]; omega
                  have r2 : ∀ W, (Op.stringOp .add z (tl.extract 0 (min (tl.size : Int) (40 - (z.size : Int))).toNat)).run Tryd.prog W = .ok (.string (z ++ tl.extract 0 (min (tl.size : Int) (40 - (z.size : Int))).toNat)) W := fun W => run_string_add_sum W _ _ (by omega)
                  have HT : Hid (z.size + (tl.extract 0 (min (tl.size : Int) (40 - (z.size : Int))).toNat).size ≤ 40) := by show _ ≤ _; omega
                  clear hT
                  go_wp2_with fail
                  refine (HDD.out _ HT.out _ (HG.out.later (bt hbl hcur))).mono ?_
                  rintro en w8 ⟨v8, rfl, ho, hb⟩
                  obtain ⟨a8, cap8, hvv, -, -⟩ := own_slice ho
                  have hvv' : v8 = .slice a8 rs.length cap8 := hvv
                  subst hvv'
                  have hbx := bel1 w8 (.cells #[.int .i64 m, .int .i64 c, .int .i64 t, .int .i64 ec, .bool sd, .bool ok, .bool sp, (.slice a8 rs.length cap8)] 24)
                  obtain ⟨⟨d0, d1, d2, d3, d4, d5, d6, d7⟩, -, -⟩ := (At.box w8 #[.int .i64 m, .int .i64 c, .int .i64 t, .int .i64 ec, .bool sd, .bool ok, .bool sp, (.slice a8 rs.length cap8)] 24).eight
                  have hbz := bt (bt (bt hbl hcur) hb) hbx
                  obtain ⟨⟨c0, c1, c2, c3, c4, c5, c6, c7⟩, -, -⟩ := (HA.out.later hbz).eight
                  have hsm := same_any m c t ec sd ok sp (.slice a8 rs.length cap8) rs m c t ec sd ok sp (.slice a rs.length cap) rs _ ((Rgs.of_own ho).later hbx) (HV.out.later hbz) HN.out HN.out
                  rw [sameO_self] at hsm
                  clear hvv hbx ho
                  go_wp2_with fail
                  refine hsm.mono ?_
                  rintro en w9 ⟨rfl, hb9⟩
                  go_wp2
                  go_ret
                  exact ⟨rfl, bt HL1.out (bt hbz hb9)⟩
              · have hyl : y.size < x.size := by have := HYX.out.2; omega
                go_wp2
                go_roundw
                case rel => exact ⟨y, by rw [HYX.out.1] <;> first | rfl | (congr 2; omega), by omega, HNX.out rfl, fun h => by have := HZE.out h; omega, bt hbl hcur⟩
                case measure => simp [szOf, ByteArray.size_extract]; omega
        · have hlb : ((LB : Int) == 0) = false := by simp; omega
          have hlb2 : ¬ (LB : Int) = 0 := by omega
          go_wp2
          refine wp_region_any (by kernel_rfl) ?_
          refine region_facts (fun W => Below wr.heap.size wr W) (GV (fun i => match i with | 0 => .string x | 1 => .int .i64 (x.size : Int) | 2 => .bool true | 3 => .bool true | 4 => .string x | 5 => .string x | 6 => .int .i64 (x.size : Int) | 7 => .int .i64 ((x.size : Int) - 1) | 8 => .int .u8 (LB : Int) | 9 => .bool false | 10 => .bool false | 11 => .bool false | 20 => .bool false | _ => undef) (fun _ => none)) (n := 72) (by kernel_rfl) rfl (by kernel_rfl) (GV_later _ _) ?_ ?_ ((Below.refl _ _).drew) (Nat.le_refl _)
          · skip
            refine ⟨?_, ?_, ?_, ?_, ?_, ?_, ?_, ?_, ?_, ?_, ?_, ?_, ?_, ?_, ?_, ?_, ?_, ?_, ?_, ?_, ?_, trivial⟩
            · intro ac w1 hS hT hB hD K hK
              rw [if_pos (by rfl)]
              have d5 : ac.tmps.getD 5 undef = .string x := hB 5 (by kernel_rfl)
              clear hB hD hT
              go_simp
              exact hK _ _ hS (Below.refl _ _) rfl
            · intro ac w1 hS hT hB hD K hK
              rw [if_pos (by rfl)]
              have d20 : ac.tmps.getD 20 undef = .string x := hD ⟨0, .data⟩ (by simp) rfl _ 20 rfl rfl
              clear hB hD hT
              go_simp
              exact hK _ _ hS (Below.refl _ _) rfl
            · intro ac w1 hS hT hB hD K hK
              rw [if_pos (by rfl)]
              have d21 : ac.tmps.getD 21 undef = .int .i64 (x.size : Int) := hD ⟨1, .data⟩ (by simp) rfl _ 21 rfl rfl
              clear hB hD hT
              have hq0 : 0 < x.size := by omega
              go_simp
              exact hK _ _ hS (Below.refl _ _) rfl
            · intro ac w1 hS hT hB hD K hK
              rw [if_pos (by rfl)]
              have d22 : ac.tmps.getD 22 undef = .bool true := hD ⟨2, .data⟩ (by simp) rfl _ 22 rfl rfl
              clear hB hD hT
              go_simp
              exact hK _ _ hS (Below.refl _ _) rfl
            · intro ac w1 hS hT hB hD K hK
              have g23 : ac.tmps.getD 23 undef = .bool true := hD ⟨3, .guard⟩ (by simp) rfl _ 23 rfl rfl
              rw [if_pos (want_t (j := 3) (d := 23) rfl rfl g23)]
              clear g23
              have d5 : ac.tmps.getD 5 undef = .string x := hB 5 (by kernel_rfl)
              clear hB hD hT
              go_simp
              exact hK _ _ hS (Below.refl _ _) rfl
            · intro ac w1 hS hT hB hD K hK
              have g23 : ac.tmps.getD 23 undef = .bool true := hD ⟨3, .guard⟩ (by simp) rfl _ 23 rfl rfl
              rw [if_pos (want_t (j := 3) (d := 23) rfl rfl g23)]
              clear g23
              have d5 : ac.tmps.getD 5 undef = .string x := hB 5 (by kernel_rfl)
              clear hB hD hT
              go_simp
              exact hK _ _ hS (Below.refl _ _) rfl
            · intro ac w1 hS hT hB hD K hK
              have g23 : ac.tmps.getD 23 undef = .bool true := hD ⟨3, .guard⟩ (by simp) rfl _ 23 rfl rfl
              rw [if_pos (want_t (j := 3) (d := 23) rfl rfl g23)]
              clear g23
              have d25 : ac.tmps.getD 25 undef = .string x := hD ⟨5, .data⟩ (by simp) rfl _ 25 rfl rfl
              clear hB hD hT
              go_simp
              exact hK _ _ hS (Below.refl _ _) rfl
            · intro ac w1 hS hT hB hD K hK
              have g23 : ac.tmps.getD 23 undef = .bool true := hD ⟨3, .guard⟩ (by simp) rfl _ 23 rfl rfl
              rw [if_pos (want_t (j := 3) (d := 23) rfl rfl g23)]
              clear g23
              have d26 : ac.tmps.getD 26 undef = .int .i64 (x.size : Int) := hD ⟨6, .data⟩ (by simp) rfl _ 26 rfl rfl
              clear hB hD hT
              have hw1 : IntKind.i64.wrap ((x.size : Int) - 1) = (x.size : Int) - 1 := by rw [IntKind.wrap_i64]; omega
              go_simp
              exact hK _ _ hS (Below.refl _ _) rfl
            · intro ac w1 hS hT hB hD K hK
              have g23 : ac.tmps.getD 23 undef = .bool true := hD ⟨3, .guard⟩ (by simp) rfl _ 23 rfl rfl
              rw [if_pos (want_t (j := 3) (d := 23) rfl rfl g23)]
              clear g23
              have d24 : ac.tmps.getD 24 undef = .string x := hD ⟨4, .data⟩ (by simp) rfl _ 24 rfl rfl
              have d27 : ac.tmps.getD 27 undef = .int .i64 ((x.size : Int) - 1) := hD ⟨7, .data⟩ (by simp) rfl _ 27 rfl rfl
              clear hB hD hT
              have hb1 : (0 : Int) ≤ (x.size : Int) - 1 := by omega
              have hb2 : (x.size : Int) - 1 < (x.size : Int) := by omega
              go_simp
              exact hK _ _ hS (Below.refl _ _) rfl
            · intro ac w1 hS hT hB hD K hK
              have g23 : ac.tmps.getD 23 undef = .bool true := hD ⟨3, .guard⟩ (by simp) rfl _ 23 rfl rfl
              rw [if_pos (want_t (j := 3) (d := 23) rfl rfl g23)]
              clear g23
              have d28 : ac.tmps.getD 28 undef = .int .u8 (LB : Int) := hD ⟨8, .data⟩ (by simp) rfl _ 28 rfl rfl
              clear hB hD hT
              go_simp
              exact hK _ _ hS (Below.refl _ _) rfl
            · intro ac w1 hS hT hB hD K hK
              rw [if_pos (by rfl)]
              have d23 : ac.tmps.getD 23 undef = .bool true := hD ⟨3, .data⟩ (by simp) rfl _ 23 rfl rfl
              have d29 : ac.tmps.getD 29 undef = .bool false := hD ⟨9, .data⟩ (by simp) rfl _ 29 rfl rfl
              clear hB hD hT
              go_simp
              exact hK _ _ hS (Below.refl _ _) rfl
            · intro ac w1 hS hT hB hD K hK
              rw [if_pos (by rfl)]
              have d30 : ac.tmps.getD 30 undef = .bool false := hD ⟨10, .data⟩ (by simp) rfl _ 30 rfl rfl
              clear hB hD hT
              go_simp
              exact hK _ _ hS (Below.refl _ _) rfl
            · intro ac w1 hS hT hB hD K hK
              have g31 : ac.tmps.getD 31 undef = .bool false := hD ⟨11, .guard⟩ (by simp) rfl _ 31 rfl rfl
              rw [if_neg (by rw [want_f (j := 11) (d := 31) rfl rfl g31 (by decide)]; simp)]
              exact hK _ _ hS (Below.refl _ _) rfl
            · intro ac w1 hS hT hB hD K hK
              have g31 : ac.tmps.getD 31 undef = .bool false := hD ⟨11, .guard⟩ (by simp) rfl _ 31 rfl rfl
              rw [if_neg (by rw [want_f (j := 11) (d := 31) rfl rfl g31 (by decide)]; simp)]
              exact hK _ _ hS (Below.refl _ _) rfl
            · intro ac w1 hS hT hB hD K hK
              have g31 : ac.tmps.getD 31 undef = .bool false := hD ⟨11, .guard⟩ (by simp) rfl _ 31 rfl rfl
              rw [if_neg (by rw [want_f (j := 11) (d := 31) rfl rfl g31 (by decide)]; simp)]
              exact hK _ _ hS (Below.refl _ _) rfl
            · intro ac w1 hS hT hB hD K hK
              have g31 : ac.tmps.getD 31 undef = .bool false := hD ⟨11, .guard⟩ (by simp) rfl _ 31 rfl rfl
              rw [if_neg (by rw [want_f (j := 11) (d := 31) rfl rfl g31 (by decide)]; simp)]
              exact hK _ _ hS (Below.refl _ _) rfl
            · intro ac w1 hS hT hB hD K hK
              have g31 : ac.tmps.getD 31 undef = .bool false := hD ⟨11, .guard⟩ (by simp) rfl _ 31 rfl rfl
              rw [if_neg (by rw [want_f (j := 11) (d := 31) rfl rfl g31 (by decide)]; simp)]
              exact hK _ _ hS (Below.refl _ _) rfl
            · intro ac w1 hS hT hB hD K hK
              have g31 : ac.tmps.getD 31 undef = .bool false := hD ⟨11, .guard⟩ (by simp) rfl _ 31 rfl rfl
              rw [if_neg (by rw [want_f (j := 11) (d := 31) rfl rfl g31 (by decide)]; simp)]
              exact hK _ _ hS (Below.refl _ _) rfl
            · intro ac w1 hS hT hB hD K hK
              have g31 : ac.tmps.getD 31 undef = .bool false := hD ⟨11, .guard⟩ (by simp) rfl _ 31 rfl rfl
              rw [if_neg (by rw [want_f (j := 11) (d := 31) rfl rfl g31 (by decide)]; simp)]
              exact hK _ _ hS (Below.refl _ _) rfl
            · intro ac w1 hS hT hB hD K hK
              have g31 : ac.tmps.getD 31 undef = .bool false := hD ⟨11, .guard⟩ (by simp) rfl _ 31 rfl rfl
              rw [if_neg (by rw [want_f (j := 11) (d := 31) rfl rfl g31 (by decide)]; simp)]
              exact hK _ _ hS (Below.refl _ _) rfl
            · intro ac w1 hS hT hB hD K hK
              rw [if_pos (by rfl)]
              have d31 : ac.tmps.getD 31 undef = .bool false := hD ⟨11, .data⟩ (by simp) rfl _ 31 rfl rfl
              have d39 : ac.tmps.getD 39 undef = undef := hD ⟨19, .data⟩ (by simp) rfl _ 39 rfl rfl
              clear hB hD hT
              go_simp
              exact hK _ _ hS (Below.refl _ _) rfl
          · intro ac w6 hcur hT hdf hB hF
            obtain ⟨⟨l⟩, df⟩ := ac
            match l, hT with
            | x0 :: x1 :: x2 :: x3 :: x4 :: x5 :: x6 :: x7 :: x8 :: x9 :: x10 :: x11 :: x12 :: x13 :: x14 :: x15 :: x16 :: x17 :: x18 :: x19 :: x20 :: x21 :: x22 :: x23 :: x24 :: x25 :: x26 :: x27 :: x28 :: x29 :: x30 :: x31 :: x32 :: x33 :: x34 :: x35 :: x36 :: x37 :: x38 :: x39 :: x40 :: x41 :: x42 :: x43 :: x44 :: x45 :: x46 :: x47 :: x48 :: x49 :: x50 :: x51 :: x52 :: x53 :: x54 :: x55 :: x56 :: x57 :: x58 :: x59 :: x60 :: x61 :: x62 :: x63 :: x64 :: x65 :: x66 :: x67 :: x68 :: x69 :: x70 :: x71 :: [], _ =>
              have s0 : x0 = .agg #[.int .i64 m, .int .i64 c, .int .i64 t, .int .i64 ec, .bool sd, .bool ok, .bool sp, (.slice a rs.length cap)] := hB 0 (by kernel_rfl)
              have s1 : x1 = .string tl := hB 1 (by kernel_rfl)
              have s2 : x2 = .pointer (some ⟨w.heap.size, 0, none⟩) := hB 2 (by kernel_rfl)
              have s3 : x3 = undef := hB 3 (by kernel_rfl)
              have s4 : x4 = .bool false := hB 4 (by kernel_rfl)
              have s5 : x5 = .string x := hB 5 (by kernel_rfl)
              have s6 : x6 = .int .i64 0 := hB 6 (by kernel_rfl)
              have s7 : x7 = undef := hB 7 (by kernel_rfl)
              have s8 : x8 = undef := hB 8 (by kernel_rfl)
              have s9 : x9 = .bool true := hB 9 (by kernel_rfl)
              have s10 : x10 = .bool false := hB 10 (by kernel_rfl)
              have s11 : x11 = .tuple #[.string E0, .int .i64 0] := hB 11 (by kernel_rfl)
              have s12 : x12 = .agg #[.int .i64 m, .int .i64 c, .int .i64 t, .int .i64 ec, .bool sd, .bool ok, .bool sp, (.slice a rs.length cap)] := hB 12 (by kernel_rfl)
              have s13 : x13 = .tuple #[.string E0, .int .i64 0] := hB 13 (by kernel_rfl)
              have s14 : x14 = .string E0 := hB 14 (by kernel_rfl)
              have s15 : x15 = .int .i64 0 := hB 15 (by kernel_rfl)
              have s16 : x16 = .int .i64 0 := hB 16 (by kernel_rfl)
              have s17 : x17 = .bool false := hB 17 (by kernel_rfl)
              have s18 : x18 = undef := hB 18 (by kernel_rfl)
              have s19 : x19 = undef := hB 19 (by kernel_rfl)
              have s46 : x46 = undef := hB 46 (by kernel_rfl)
              have s47 : x47 = undef := hB 47 (by kernel_rfl)
              have s48 : x48 = undef := hB 48 (by kernel_rfl)
              have s49 : x49 = undef := hB 49 (by kernel_rfl)
              have s50 : x50 = undef := hB 50 (by kernel_rfl)
              have s51 : x51 = undef := hB 51 (by kernel_rfl)
              have s52 : x52 = undef := hB 52 (by kernel_rfl)
              have s53 : x53 = undef := hB 53 (by kernel_rfl)
              have s54 : x54 = undef := hB 54 (by kernel_rfl)
              have s55 : x55 = undef := hB 55 (by kernel_rfl)
              have s56 : x56 = undef := hB 56 (by kernel_rfl)
              have s57 : x57 = undef := hB 57 (by kernel_rfl)
              have s58 : x58 = undef := hB 58 (by kernel_rfl)
              have s59 : x59 = undef := hB 59 (by kernel_rfl)
              have s60 : x60 = undef := hB 60 (by kernel_rfl)
              have s61 : x61 = undef := hB 61 (by kernel_rfl)
              have s62 : x62 = undef := hB 62 (by kernel_rfl)
              have s63 : x63 = undef := hB 63 (by kernel_rfl)
              have s64 : x64 = undef := hB 64 (by kernel_rfl)
              have s65 : x65 = undef := hB 65 (by kernel_rfl)
              have s66 : x66 = undef := hB 66 (by kernel_rfl)
              have s67 : x67 = undef := hB 67 (by kernel_rfl)
              have s68 : x68 = undef := hB 68 (by kernel_rfl)
              have s69 : x69 = undef := hB 69 (by kernel_rfl)
              have s70 : x70 = undef := hB 70 (by kernel_rfl)
              have s71 : x71 = undef := hB 71 (by kernel_rfl)
              subst s0 s1 s2 s3 s4 s5 s6 s7 s8 s9 s10 s11 s12 s13 s14 s15 s16 s17 s18 s19 s46 s47 s48 s49 s50 s51 s52 s53 s54 s55 s56 s57 s58 s59 s60 s61 s62 s63 s64 s65 s66 s67 s68 s69 s70 s71
              have s40 : x40 = .bool false := hF 20 _ 40 rfl rfl
              have sdf : df = [] := hdf
              subst s40 sdf
              clear hB hF hT hA1 hA2
              have hxs : (x ++ (⟨#[1, 0]⟩ : ByteArray)).size = x.size + 2 := by rw [ByteArray.size_append]; rfl
              have HXL : Hid ((x ++ (⟨#[1, 0]⟩ : ByteArray)).data.toList = x.data.toList ++ [1, 0]) := app_data _ _
              have r1 : ∀ W, (Op.stringOp .add x ⟨#[1, 0]⟩).run Tryd.prog W = .ok (.string (x ++ ⟨#[1, 0]⟩)) W := fun W => run_string_add_sum W _ _ (by show _ + 2 ≤ _; omega)
              obtain ⟨z, hz⟩ : ∃ z, z = x ++ (⟨#[1, 0]⟩ : ByteArray) := ⟨_, rfl⟩
              rw [← hz] at r1 hxs HXL
              clear hz
              have hz42 : (z.size : Int) ≤ 42 := by omega
              by_cases hbig : 40 < z.size
              · have hbig' : (40 : Int) < (z.size : Int) := by omega
                clear hxs
                go_wp2
                go_ret
                exact ⟨rfl, bt HL1.out (bt hbl hcur)⟩
              · have hbig' : (z.size : Int) ≤ 40 := by omega
                have HDD : Hid (∀ (T : ByteArray), z.size + T.size ≤ 40 → ∀ W, Ord W → Calls Tryd.prog 20 #[.string (z ++ T)] W fun en w' => ∃ v, en = .returned (.tuple #[.agg #[.int .i64 m, .int .i64 c, .int .i64 t, .int .i64 ec, .bool sd, .bool ok, .bool sp, v], .int .i64 0]) ∧ w'.ownsRow W.heap.size 35 2 v rs.length (flatR rs) ∧ Below W.heap.size W w') := fun T hT W hG => by
                  refine dec_some (z ++ T) W hG (by rw [ByteArray.size_append]; omega) ⟨m, c, t, ec, sd, ok, sp, rs⟩ ?_
                  rw [app_data, HXL.out, List.append_assoc]
                  exact dec_tail x.data.toList T.data.toList _ HDX.out (by rw [toList_size, toList_size]; omega)
                have HZX : Hid (z.size = x.size + 2) := hxs
                clear hxs
                have hT : (tl.extract 0 (min (tl.size : Int) (40 - (z.size : Int))).toNat).size + z.size ≤ 40 := by rw [ByteArray.size_extract]; omega
                have r2 : ∀ W, (Op.stringOp .add z (tl.extract 0 (min (tl.size : Int) (40 - (z.size : Int))).toNat)).run Tryd.prog W = .ok (.string (z ++ tl.extract 0 (min (tl.size : Int) (40 - (z.size : Int))).toNat)) W := fun W => run_string_add_sum W _ _ (by omega)
                have HT : Hid (z.size + (tl.extract 0 (min (tl.size : Int) (40 - (z.size : Int))).toNat).size ≤ 40) := by show _ ≤ _; omega
                clear hT
                go_wp2_with fail
                refine (HDD.out _ HT.out _ (HG.out.later (bt hbl hcur))).mono ?_
                rintro en w8 ⟨v8, rfl, ho, hb⟩
                obtain ⟨a8, cap8, hvv, -, -⟩ := own_slice ho
                have hvv' : v8 = .slice a8 rs.length cap8 := hvv
                subst hvv'
                have hbx := bel1 w8 (.cells #[.int .i64 m, .int .i64 c, .int .i64 t, .int .i64 ec, .bool sd, .bool ok, .bool sp, (.slice a8 rs.length cap8)] 24)
                obtain ⟨⟨d0, d1, d2, d3, d4, d5, d6, d7⟩, -, -⟩ := (At.box w8 #[.int .i64 m, .int .i64 c, .int .i64 t, .int .i64 ec, .bool sd, .bool ok, .bool sp, (.slice a8 rs.length cap8)] 24).eight
                have hbz := bt (bt (bt hbl hcur) hb) hbx
                obtain ⟨⟨c0, c1, c2, c3, c4, c5, c6, c7⟩, -, -⟩ := (HA.out.later hbz).eight
                have hsm := same_any m c t ec sd ok sp (.slice a8 rs.length cap8) rs m c t ec sd ok sp (.slice a rs.length cap) rs _ ((Rgs.of_own ho).later hbx) (HV.out.later hbz) HN.out HN.out
                rw [sameO_self] at hsm
                clear hvv hbx ho
                go_wp2_with fail
                refine hsm.mono ?_
                rintro en w9 ⟨rfl, hb9⟩
                go_wp2
                go_ret
                exact ⟨rfl, bt HL1.out (bt hbz hb9)⟩
  · have HE := fun W h1 h2 => enc_f m c t ec sd ok sp (.slice a rs.length cap) rs W h1 HN.out hm h2
    have HEH : Hid (∀ W, Rgs W (.slice a rs.length cap) rs → Ord W → Calls Tryd.prog 10 #[.agg #[.int .i64 m, .int .i64 c, .int .i64 t, .int .i64 ec, .bool sd, .bool ok, .bool sp, (.slice a rs.length cap)]] W fun e w' => e = .returned (.tuple #[.string ⟨#[]⟩, .int .i64 70]) ∧ Below W.heap.size W w') := HE
    clear HE hm
    go_enter Tryd.func8, Tryd.ntmps8
    go_wp2_with fail
    refine (works_any _ (hG.later hl)).mono ?_
    rintro en w0 ⟨rfl, hb⟩
    replace hl := bt hl hb
    replace hA := hA.later hb
    clear hb c0 c1 c2 c3 c4 c5 c6 c7
    obtain ⟨⟨c0, c1, c2, c3, c4, c5, c6, c7⟩, -, -⟩ := hA.eight
    go_wp2_with fail
    refine (HEH.out _ (hv.later hl) (hG.later hl)).mono ?_
    rintro en w1 ⟨rfl, hb⟩
    go_wp2
    go_ret
    exact ⟨rfl, bt hl hb⟩

set_option maxRecDepth 100000 in
theorem lifted (os : Os) (started : os.Started) (H : Type) (enc : TypeId × Value → H) :
    ReturnsInHanded {} Tryd.checked os 8 .any (fun w args => (Rows.optsTailSpec.pre enc Tryd.prog Tryd.f8 [] false w args ∧ laidMetH Tryd.prog laidL w) ∧ sizedMet enc Tryd.prog Tryd.f8 (OpenSpec.ofChange Rows.optsTailSpec) false w args)
      (Rows.optsTailSpec.post enc Tryd.prog Tryd.f8 false true false false) := by
  refine returnsInHanded_of_change_and (C := Tryd.checked) (X := fun w _ => laidMetH Tryd.prog laidL w) (fun _ _ _ hh h => h.of_heap hh) ownK started (by kernel_rfl) Tryd.func8
    (ChangeSpec.witness_shaped (enc := enc) (C := Tryd.checked) (os := os) (X := fun w _ => laidMetH Tryd.prog laidL w) false (World.doorLaid Tryd.prog 400 os) #[.agg #[.int .i64 0, .int .i64 0, .int .i64 0, .int .i64 0, .bool false, .bool false, .bool false, .slice none 0 0], .string ByteArray.empty] 8 rfl (World.shaped_of_RefB (by kernel_rfl) (by kernel_rfl)) (by kernel_rfl) (by kernel_rfl) (by kernel_rfl) (door_met os _)) ?_
  intro W base args ds gs before hval0 hW hcnd hsz0 hL _
  have hG := ord_of hL
  have hsz : (DataW.weightsEach Tryd.prog (Tryd.f8.params.toList ++ Rows.optsTailSpec.plain.varTypes Tryd.prog) (ds ++ gs)).all (· ≤ reachBytes) = true := hsz0
  have hval : ∀ (j : Nat) t v, Tryd.f8.params[j]? = some t → args[j]? = some v → Value.okWide Tryd.prog W .any base t v := hval0
  have hW' := hW
  obtain ⟨p, q, hA0, hV, rfl, hfz, hnd⟩ := hW
  have hA : DataW.TrodAll enc Tryd.prog W 0 (fun _ => true) true Tryd.f8.params.toList args.toList ds p := hA0
  rw [Tryd.params8] at hA hval hsz
  obtain ⟨v0, vs0, d0, ds0, p0, q0, hargs, rfl, rfl, h0, r0⟩ := trodAll_cons hA
  obtain ⟨v1, vs1, d1, ds1, p1, q1, rfl, rfl, rfl, h1, r1⟩ := trodAll_cons r0
  obtain ⟨rfl, rfl, rfl⟩ := trodAll_nil r1
  obtain rfl : args = #[v0, v1] := by cases args; simp_all
  obtain ⟨rfl, rfl⟩ := trodVars_none hV
  have k0 := h0
  have lt0 : ∀ x ∈ p0, x.block < W.heap.size := by obtain ⟨m, hm⟩ := k0; exact DataW.trod_lt m _ _ _ hm
  have k1 := h1
  have lt1 : ∀ x ∈ p1, x.block < W.heap.size := by obtain ⟨m, hm⟩ := k1; exact DataW.trod_lt m _ _ _ hm
  obtain ⟨m0, c0, t0, ec0, sd0, ok0, sp0, u0, rs0, parts0, rfl, hdp0, hr0, hw0⟩ := open24 (hval 0 24 v0 rfl rfl) h0
  have z0 : rs0.length * 16 ≤ 140737488351232 := sized_24 hsz (j := 0) rfl (by rw [hdp0]; rfl) hw0
  obtain ⟨a1, rfl, e1, -, w1⟩ := open_string Tryd.underlying9 (hval 1 9 v1 rfl rfl) h1
  have z1 : a1.size ≤ 140737488351232 := by
    have := sized_string hsz (j := 1) (t := 9) rfl (by rw [e1]; rfl)
    simp only [reachBytes] at this
    simpa using this
  clear hA0 hval0
  refine (walk m0 c0 t0 ec0 sd0 ok0 sp0 u0 rs0 a1 W hG hr0 z0 z1).mono fun e W' ⟨he, bel⟩ => ?_
  subst he
  exact ⟨_, rfl, _, _, _, [], _, [], hW', trodAll_mk1 (shut_bool Tryd.underlying4 _), (trodAll_cons_mk (Below.trod laidOutK (by kernel_rfl) (of_decide_eq_true (by kernel_rfl)) k0 bel lt0) (trodAll_cons_mk (Below.trod laidOutK (by kernel_rfl) (of_decide_eq_true (by kernel_rfl)) k1 bel lt1) trodAll_mk0)), rfl, bel.frame _, fun h => by cases h⟩

theorem over : Rows.optsTailRow.holds Tryd.pinned (OpenSpec.ofChange Rows.optsTailSpec) :=
  OpenClaim.holds_of_wide 8 Tryd.f8 rfl rfl rfl rfl rfl rfl rfl ⟨rfl, rfl, rfl, rfl, rfl⟩ rfl rfl rfl rfl rfl (by kernel_rfl) Tryd.func8 (by kernel_rfl)
    (of_decide_eq_true (by kernel_rfl)) (by unfold Func.isWrapper; first | (rw [if_pos (by decide +kernel)]; kernel_rfl) | (rw [if_neg (by decide +kernel)]; exact ⟨rfl, rfl⟩))
    (fun os started H enc _ => lifted os started H enc)

end Go.Proofs.YtacokljohbjnjaaDoor.optsTail
namespace Go.Proofs.YtacokljohbjnjaaDoor
open Go
theorem optsTail_card_holds : Rows.OptsTailCardSaid :=
  Claim7.holds_tied_plain_at .later [] [.data] true (true, "b329e8443bf405fc7ec9c7f296bf5b15ced440c224d2249f857770d22ce70a43") false
    optsTail.over (fun _ h => by cases h) (by kernel_rfl) (fun _ h => by cases h) optsTail_row_tie rfl ⟨rfl, rfl⟩ (by kernel_rfl) rfl
    (fun f fn hf hfn => by
      obtain rfl : f = 8 := Option.some.inj ((show Tryd.prog.funcNamed "sternpost/sternpostlaw07.OptsTail" = some 8 by kernel_rfl).symm.trans hf) |>.symm
      obtain rfl : fn = Tryd.f8 := (Option.some.inj (Tryd.func8.symm.trans hfn)).symm
      exact ⟨by kernel_rfl, fun j t ht => by
        rw [Tryd.params8] at ht
        have hm : t ∈ [24, 9] := by simpa using Array.mem_of_getElem? ht
        have hall : ([24, 9].all fun u => !Tryd.prog.wantsStandIn u) = true := by kernel_rfl
        exact (show Tryd.prog.wantsStandIn t = false by simpa using List.all_eq_true.1 hall t hm)⟩)
    (by kernel_rfl)
end Go.Proofs.YtacokljohbjnjaaDoor
