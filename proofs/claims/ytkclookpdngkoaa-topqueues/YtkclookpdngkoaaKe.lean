/- TopQueues: the walk. -/
import Derived.Test.YtkclookpdngkoaaKd
import Derived.Test.YtkclookpdngkoaaFlat
namespace Go.Proofs.Ytkclookpdngkoaa
open Go.RowKit Go.Maps Go.Lib
set_option maxRecDepth 100000
set_option linter.unusedVariables false
set_option linter.unusedSimpArgs false

/-- What the loop keeps at the head of its round i. -/
def Inv (base : Nat) (W : World) (q g : Nat) (fi : Int) (i : Nat) (wr rd : ByteArray) : Prop :=
  ∃ (A : V.Bk) (T : List UInt8) (C : Nat → Bool) (p r s : Nat) (ps : List S.Pt), TJ base W A q g T fi C p r s ps ∧ cov C p ps ∧ wr = tx T ∧ rd = tx (T.take r) ∧ T.length ≤ 100 * i ∧ (21 ≤ i → p - r ≤ 50 ∧ i + pot T.length p r s (cnt C s) ≤ 358)
/-- The turn's own words. -/
def TurnIs (i : Nat) (t : ByteArray) (xm xr : Int) (xl : Bool) : Prop := 20 ≤ i → t = ⟨#[]⟩ ∧ xm = 30 ∧ xr = 100 ∧ xl = false
set_option maxHeartbeats 8000000 in
theorem queues_walk (first : Int) (a : Option Addr) (n cap : Nat) (w : World) (hr : Flat.Rows w a n 4 [.s, .i, .i, .b]) (hz : n < 1000000000000000) :
    Calls Try.prog 3 #[.int .i64 first, .slice a n cap] w fun e w' => e = .returned (.bool true) ∧ Below w.heap.size w w' := by
  have HA : Hid (Flat.Rows w a n 4 [.s, .i, .i, .b]) := hr
  clear hr
  go_enter Try.func3, Try.ntmps3
  go_wp2_with fail
  refine (among_any first 4294967296 w (by decide) (by decide)).mono ?_
  rintro e w0 ⟨rfl, hw0⟩
  subst hw0
  obtain ⟨fi, hfi⟩ : ∃ x, x = first % 4294967296 := ⟨_, rfl⟩
  have hf0 : 0 ≤ fi ∧ fi ≤ 4294967295 := by omega
  rw [← hfi]
  clear hfi
  have hc1 := S.new_t fi 400 w0 hf0.1 hf0.2 (by decide) (by decide)
  go_wp2_with fail
  refine hc1.mono ?_
  rintro e w1 ⟨rfl, hX1, hb1⟩
  have hc2 := V.new_t fi 150 w1 hf0.1 hf0.2 (by decide) (by decide)
  rw [show ((150 : Nat) : Int) = 150 from rfl] at hc2
  clear hc1
  go_wp2_with fail
  refine hc2.mono ?_
  rintro e w2 ⟨rfl, hX2, hb2⟩
  have hT := tj_first hf0.1 hf0.2 hX1 hb1 hX2 hb2
  have hbw : Below w0.heap.size w0 w2 := S.bt hb1 hb2
  obtain ⟨base, hbase⟩ : ∃ x, x = w0.heap.size := ⟨_, rfl⟩
  obtain ⟨q, hq⟩ : ∃ x, x = w0.heap.size := ⟨_, rfl⟩
  obtain ⟨g, hg⟩ : ∃ x, x = w1.heap.size + 1 := ⟨_, rfl⟩
  rw [show S.PQ w0.heap.size = PQ q by rw [hq], show V.PQ (w1.heap.size + 1) = PQ g by rw [hg]]
  have hT' : ∃ A : V.Bk, TJ base w2 A q g [] fi (fun _ => false) 0 0 0 [] := by rw [hbase, hq, hg]; rw [← hq] at hT; rw [hq] at hT; exact ⟨_, hT⟩
  obtain ⟨A0, hT⟩ := hT'
  rw [← hbase] at hbw
  clear hX1 hX2 hb1 hb2 hc2 hq hg
  go_wp2_with fail
  refine (queues_any w2).mono ?_
  rintro e w3 ⟨rfl, hb3⟩
  have HI : Hid (Inv base w3 q g fi 0 ⟨#[]⟩ ⟨#[]⟩) := ⟨A0, [], _, 0, 0, 0, [], hT.later hb3, cov_first, rfl, rfl, Nat.le_refl _, fun h => by omega⟩
  have hbw3 : Below base w0 w3 := hbw.trans (hb3.mono (by rw [hbase]; have := hbw.size; omega))
  have hbs : base ≤ w0.heap.size := by omega
  clear hT hbw hb3 hf0
  go_wp2_with fail
  try go_frame
  go_loopw [9, 10, 52] (fun s9 s10 s52 W => ∃ (i : Nat) (wr rd : ByteArray), s52 = .int .i64 (i : Int) ∧ i ≤ 400 ∧ s9 = .string wr ∧ s10 = .string rd ∧ Hid (Inv base W q g fi i wr rd) ∧ Below base w0 W) (fun _ _ s52 _ => 400 - (RowKit.intOf s52).toNat)
  case atStart => exact ⟨0, _, _, rfl, Nat.zero_le _, rfl, rfl, HI, hbw3⟩
  case round =>
    clear HI hbw3
    obtain ⟨i, swr, srd, rfl, hi, rfl, rfl, HI, hb⟩ := hrel
    by_cases hi4 : i < 400
    rotate_left
    · exfalso
      obtain ⟨A, T, C, p, r, s, ps, -, -, -, -, -, h⟩ := HI.out
      have := (h (by omega)).2
      omega
    have z0 : (i : Int) < 400 := by omega
    obtain ⟨wr, hwr⟩ : ∃ x, x = wr := ⟨wr, rfl⟩
    subst hwr
    go_upto_region 11 with fail
    go_cut [62] from 53 to 61 (fun s62 W => s62 = .bool (decide (i < n ∧ i < 20)) ∧ W = wr.alloc (.cells #[.string ⟨#[]⟩, .int .i64 0, .int .i64 0, .bool false] 33))
    case first =>
      by_cases y0 : i < n
      · have y2 : (i : Int) < (n : Int) := by omega
        by_cases y1 : i < 20
        · have y3 : (i : Int) < 20 := by omega
          go_wp2
          go_meet
          case rel => exact ⟨by rw [decide_eq_true ⟨y0, y1⟩], rfl⟩
        · have y3 : ¬ (i : Int) < 20 := by omega
          go_wp2
          go_meet
          case rel => exact ⟨by rw [decide_eq_false (fun h => y1 h.2)], rfl⟩
      · have y2 : ¬ (i : Int) < (n : Int) := by omega
        go_wp2
        go_meet
        case rel => exact ⟨by rw [decide_eq_false (fun h => y0 h.1)], rfl⟩
    case rest =>
    obtain ⟨rfl, hw4⟩ := hcut
    subst hw4
    go_upto_if 62 with fail
    go_cut [66] from 53 to 177 (fun s66 W => ∃ (t : ByteArray) (xm xr : Int) (xl : Bool), Hid (TurnIs i t xm xr xl) ∧ Hid (∀ A, V.Lw wr A → BX W A wr.heap.size #[.string t, .int .i64 xm, .int .i64 xr, .bool xl]) ∧ Below wr.heap.size wr W)
    case first =>
      by_cases hlt : i < n ∧ i < 20
      · rw [decide_eq_true hlt]
        obtain ⟨ab, off, rfl, hrow⟩ : ∃ b off, a = some ⟨b, off, none⟩ ∧ ∀ k, k < n → ∃ cs : List Value, Flat.Ok [.s, .i, .i, .b] cs ∧ ∀ j v, cs[j]? = some v → w0.cell? ⟨b, off + k * 4 + j, none⟩ = some v := by
          rcases HA.out with h | h
          · omega
          · exact h
        obtain ⟨cs, ⟨hcl, hck⟩, hcc⟩ := hrow i hlt.1
        clear hrow
        match cs, hcl with
        | [v0, v1, v2, v3], _ =>
        obtain ⟨t, rfl, wt⟩ := hck 0 _ _ rfl rfl
        obtain ⟨xm, rfl, wxm⟩ := hck 1 _ _ rfl rfl
        obtain ⟨xr, rfl, wxr⟩ := hck 2 _ _ rfl rfl
        obtain ⟨xl, rfl⟩ := hck 3 _ _ rfl rfl
        have hbA : Below base w0 (wr.alloc (.cells #[.string ⟨#[]⟩, .int .i64 0, .int .i64 0, .bool false] 33)) := hb.trans ((S.bel1 _ _).mono (by have := hb.size; omega))
        have hlat : ∀ {ad : Addr} {v : Value}, w0.cell? ad = some v → (wr.alloc (.cells #[.string ⟨#[]⟩, .int .i64 0, .int .i64 0, .bool false] 33)).cell? ad = some v := fun h => S.later (hbase ▸ hbA) h
        have x0 : (wr.alloc (.cells #[.string ⟨#[]⟩, .int .i64 0, .int .i64 0, .bool false] 33)).cell? ⟨ab, off + i * 4, none⟩ = some (.string t) := hlat (hcc 0 _ rfl)
        have x1 : (wr.alloc (.cells #[.string ⟨#[]⟩, .int .i64 0, .int .i64 0, .bool false] 33)).cell? ⟨ab, off + i * 4 + 1, none⟩ = some (.int .i64 xm) := hlat (hcc 1 _ rfl)
        have x2 : (wr.alloc (.cells #[.string ⟨#[]⟩, .int .i64 0, .int .i64 0, .bool false] 33)).cell? ⟨ab, off + i * 4 + 2, none⟩ = some (.int .i64 xr) := hlat (hcc 2 _ rfl)
        have x3 : (wr.alloc (.cells #[.string ⟨#[]⟩, .int .i64 0, .int .i64 0, .bool false] 33)).cell? ⟨ab, off + i * 4 + 3, none⟩ = some (.bool xl) := hlat (hcc 3 _ rfl)
        have hk1 : (i : Int) < (n : Int) := by omega
        have hk3 : (0 : Int) ≤ (i : Int) := by omega
        have HTI : Hid (TurnIs i t xm xr xl) := fun h => by omega
        clear hcc hck hlat hbA hlt
        go_wp2
        go_meet
        case rel => exact ⟨t, xm, xr, xl, HTI, fun A lw => BX.box _ lw, S.bel1 _ _⟩
      · rw [decide_eq_false hlt]
        have hin := HI.out
        go_wp2
        go_meet
        case rel => exact ⟨⟨#[]⟩, 30, 100, false, fun _ => ⟨rfl, rfl, rfl, rfl⟩, fun A lw => BX.box _ lw, S.bel1 _ _⟩
    case rest =>
    obtain ⟨t, xm, xr, xl, HTI, HBX, hbx⟩ := hcut
    obtain ⟨A, T, C, p, r, s, ps, hT0, hcov, hwr1, hrd1, hTl, hpot⟩ := HI.out
    subst hwr1
    subst hrd1
    obtain ⟨w4, hw4⟩ : ∃ x, x = wc := ⟨wc, rfl⟩
    subst hw4
    have hT4 := hT0.later hbx
    have hB4 := HBX.out A hT0.pj.vx.lw
    have hb4 : Below base w0 w4 := hb.trans (hbx.mono hT0.pj.bs)
    have HP : Hid (cov C p ps ∧ T.length ≤ 100 * i ∧ (21 ≤ i → p - r ≤ 50 ∧ i + pot T.length p r s (cnt C s) ≤ 358)) := ⟨hcov, hTl, hpot⟩
    obtain ⟨xb, hxb⟩ : ∃ x, x = wr.heap.size := ⟨_, rfl⟩
    rw [← hxb] at hB4 ⊢
    clear HBX hbx hT0 hb HI hcov hTl hpot hxb
    obtain ⟨x0, f0⟩ := hB4.at_.2 0 _ rfl
    go_upto_if 71 with fail
    go_cut [9, 13, 14] from 53 to 177 (fun s9 s13 s14 W => ∃ T' : List UInt8, s9 = .string (tx T') ∧ Hid (TJ base W A q g T' fi C p r s ps ∧ T'.length ≤ 100 * (i + 1) ∧ (20 ≤ i → T' = T) ∧ T'.take r = T.take r) ∧ Hid (BX W A xb #[.string t, .int .i64 xm, .int .i64 xr, .bool xl]) ∧ Below base w0 W)
    case first =>
      by_cases hsz : t.size ≤ 100
      · have y1 : (t.size : Int) ≤ 100 := by omega
        go_wp2_with fail
        refine (tj_write hT4 t hsz).mono ?_
        rintro e w5 ⟨m, c, rfl, hm, hT5, hk5⟩
        have hB5 := hB4.keep hk5 (V.Gr.refl _ _)
        have hb5 := hb4.trans hk5.below
        obtain ⟨y0, -⟩ := hB5.at_.2 0 _ rfl
        have htl : t.data.toList.length = t.size := Array.length_toList
        have hT1 := HP.out.2.1
        have hTm : (T ++ t.data.toList.take m).length ≤ 100 * (i + 1) := by rw [List.length_append, List.length_take]; omega
        have hsl : ∀ W, (Instr.slice 9 (.string t) none (some (.int .i64 (m : Int))) none).run Try.prog W = .ok (.string (tx (t.data.toList.take m))) W := fun W => by
          have e9 : t.extract 0 m = tx (t.data.toList.take m) := by
            rw [S.strB_extract, List.drop_zero, Nat.sub_zero]
            rfl
          simp [Instr.slice, Instr.sliceBounds, Instr.sliceBound, asIntOf, run_underlying Try.underlying9, Result.andThen]
          simp [hm, e9]
        have hcc : ¬ 9223372036854775807 < (tx T).size + (tx (t.data.toList.take m)).size := by rw [tx_size, tx_size, List.length_take]; omega
        have H20 : Hid (20 ≤ i → T ++ t.data.toList.take m = T) := fun h => by
          have := (HTI.out h).1
          rw [this]
          show T ++ ([] : List UInt8).take m = T
          rw [List.take_nil, List.append_nil]
        have HTR : Hid ((T ++ t.data.toList.take m).take r = T.take r) := List.take_append_of_le_length (by have := hT4.ti.rp; have := hT4.ti.ps; have := hT4.ti.sT; omega)
        have HTT : Hid (TJ base w5 A q g (T ++ t.data.toList.take m) fi C p r s ps) := hT5
        clear hT4 hB4 hT5 hk5 hT1
        go_wp2
        go_meet
        case rel => exact ⟨T ++ t.data.toList.take m, by rw [tx_app], ⟨HTT.out, hTm, H20.out, HTR.out⟩, hB5, hb5⟩
      · have y1 : ¬ (t.size : Int) ≤ 100 := by omega
        have HTT : Hid (TJ base w4 A q g T fi C p r s ps) := hT4
        clear hT4
        go_wp2
        go_meet
        case rel => exact ⟨T, rfl, ⟨HTT.out, by have := HP.out.2.1; omega, fun _ => rfl, rfl⟩, hB4, hb4⟩
    case rest =>
    obtain ⟨T', rfl, HT, HB, hb4'⟩ := hcut
    have hlen := HT.out.2.1
    have HT20 : Hid (20 ≤ i → T' = T) := HT.out.2.2.1
    have HTR : Hid (T'.take r = T.take r) := HT.out.2.2.2
    have HTI0 : Hid (TI T' C p r s) := HT.out.1.ti
    obtain ⟨w5, hw5⟩ : ∃ x, x = wc := ⟨wc, rfl⟩
    subst hw5
    have hT5 := HT.out.1
    have hB5 := HB.out
    clear HT HB hT4 hB4 hb4 x0 f0
    obtain ⟨x1, f1⟩ := hB5.at_.2 1 _ rfl
    go_wp2_with fail
    refine (among_any xm 40 w5 (by decide) (by decide)).mono ?_
    rintro e w6 ⟨rfl, hw6⟩
    subst hw6
    obtain ⟨mm, hmm⟩ : ∃ mm : Nat, xm % 40 = (mm : Int) := ⟨(xm % 40).toNat, by omega⟩
    have hmm1 : mm < 40 := by omega
    have HM : Hid (20 ≤ i → mm = 30) := fun h => by have := (HTI.out h).2.1; omega
    rw [hmm]
    clear hmm x1 f1
    go_wp2_with fail
    refine (tj_window hT5).mono ?_
    rintro e w7 ⟨rfl, hT7, hk7⟩
    have hB7 := hB5.keep hk7 (V.Gr.refl _ _)
    have hb7 := hb4'.trans hk7.below
    clear hT5 hB5 hk7 hb4'
    have hnx := tj_next hT7 (1 + mm) (by omega)
    rw [show ((1 + mm : Nat) : Int) = 1 + (mm : Int) by omega] at hnx
    have hwb := hT7.ti.w
    obtain ⟨wi, hwi⟩ : ∃ x, x = r + 150 - p := ⟨_, rfl⟩
    rw [← hwi] at hnx ⊢
    have hwi1 : wi ≤ 150 := by have := hT7.ti.rp; omega
    clear hwi hwb
    go_wp2_with fail
    refine hnx.mono ?_
    rintro e w8 ⟨s1, rfl, hs1, hT8, hk8⟩
    have hB8 := hB7.keep hk8 (V.Gr.refl _ _)
    have hb8 := hb7.trans hk8.below
    clear hT7 hB7 hk8 hb7 hnx
    have h15 : hT8.ti.sT = hT8.ti.sT := rfl
    have hss : s ≤ s1 ∧ s1 ≤ T'.length := ⟨by omega, hT8.ti.sT⟩
    clear h15
    have HS1 : Hid (s1 = s + min (min (T'.length - s) (r + 150 - s)) (1 + mm)) := hs1
    obtain ⟨str, hstr⟩ : ∃ x, x = tx (pc T' s s1) := ⟨_, rfl⟩
    have hstl : str.toList.isEmpty = decide (s1 = s) := by
      rw [hstr, S.em_any, tx_size, pc_len hss.2]
      by_cases q1 : s1 = s
      · rw [decide_eq_true q1, decide_eq_true (by omega)]
      · rw [decide_eq_false q1, decide_eq_false (by omega)]
    rw [← hstr]
    have HST : Hid (str = tx (pc T' s s1)) := hstr
    clear hs1 hstr
    go_upto_if 98 with fail
    go_cut [16, 17, 19] from 53 to 177 (fun s16 s17 s19 W => ∃ (ea ee s2 : Nat), s16 = .int .i64 ((fi + (ea : Int)) % 4294967296) ∧ s17 = .string (tx (pc T' ea ee)) ∧ Hid (Sent T'.length p r s (1 + mm) ea ee s2 ∧ TJ base W A q g T' fi C p r s2 ps) ∧ Hid (BX W A xb #[.string t, .int .i64 xm, .int .i64 xr, .bool xl]) ∧ Below base w0 W)
    case first =>
      by_cases hz1 : s1 = s
      rotate_left
      · rw [decide_eq_false hz1] at hstl
        go_wp2
        go_meet
        case rel => exact ⟨s, s1, s1, rfl, by rw [HST.out], ⟨Or.inl ⟨rfl, rfl, by omega, HS1.out⟩, hT8⟩, hB8, hb8⟩
      · rw [decide_eq_true hz1] at hstl
        have hs0 : min (T'.length - s) (r + 150 - s) = 0 := by have := HS1.out; omega
        rw [hz1] at hT8
        have hcov := HP.out.1
        clear HS1 HST hss
        have hho := tj_hole hT8 hcov (1 + mm) (by omega)
        rw [show ((1 + mm : Nat) : Int) = 1 + (mm : Int) by omega] at hho
        go_wp2_with fail
        refine hho.mono ?_
        rintro e w9 ⟨e1, rfl, he1, he2, he3, hT9, hk9⟩
        have hB9 := hB8.keep hk9 (V.Gr.refl _ _)
        have hb9 := hb8.trans hk9.below
        clear hT8 hB8 hk9 hb8 hho hstl
        have HSE : Hid (Sent T'.length p r s (1 + mm) p e1 s) := Or.inr ⟨rfl, rfl, hs0, he1, he2, he3⟩
        obtain ⟨str2, hstr2⟩ : ∃ x, x = tx (pc T' p e1) := ⟨_, rfl⟩
        have HST2 : Hid (str2 = tx (pc T' p e1)) := hstr2
        rw [← hstr2]
        clear hstr2 hs0 he1 he2 he3
        obtain ⟨na, hna⟩ : ∃ x, x = (fi + (p : Int)) % 4294967296 := ⟨_, rfl⟩
        have HNA : Hid (na = (fi + (p : Int)) % 4294967296) := hna
        rw [← hna]
        clear hna
        go_wp2_with fail
        refine (tj_told hT9).mono ?_
        rintro e w10 ⟨v, rfl, hR10, hT10, hk10, hb10'⟩
        have hB10 := hB9.keep hk10 (V.Gr.refl _ _)
        have hb10 := hb9.trans hk10.below
        have HNO : Hid (∀ x ∈ V.apartL (rQ T' fi C p r) 99, (na == x.1) = false) := fun x hx => by rw [HNA.out]; exact no_from hT10.ti hx
        obtain ⟨rs, hrs⟩ : ∃ x, x = V.apartL (rQ T' fi C p r) 99 := ⟨_, rfl⟩
        have hlb := str_len (fi := fi) hT10.ti
        rw [← hrs] at hR10 HNO hlb
        obtain ⟨a2, c2, rfl, ha2, -⟩ := hR10.shape
        have hb10s : Below base w0 w10 := hb10
        have HR : Hid (V.RO w10 w9.heap.size (.slice a2 rs.length c2) rs) := hR10
        have HK : Hid (TJ base w10 A q g T' fi C p r s ps) := hT10
        have HBB : Hid (BX w10 A xb #[.string t, .int .i64 xm, .int .i64 xr, .bool xl]) := hB10
        obtain ⟨ln, hln⟩ : ∃ x, x = rs.length := ⟨_, rfl⟩
        rw [← hln]
        have hlb2 : ln ≤ 100 := by omega
        clear hT9 hB9 hk10 hb9 hb10' hb10 hrs hT10 hB10 hR10
        go_wp2_with fail
        try go_frame
        go_loopw [108] (fun s108 W => ∃ (j : Nat), j ≤ ln ∧ s108 = .int .i64 (j : Int) ∧ Below w10.heap.size w10 W) (fun s108 _ => ln - (RowKit.intOf s108).toNat)
        case atStart => exact ⟨0, Nat.zero_le _, rfl, Below.refl _ _⟩
        case round =>
          obtain ⟨j, hj, rfl, hbj⟩ := hrel
          obtain ⟨w11, hw11⟩ : ∃ x, x = wr := ⟨wr, rfl⟩
          by_cases hjl : j < ln
          · have y1 : (j : Int) < (ln : Int) := by omega
            obtain ⟨A2, hA2⟩ : ∃ A2, a2 = some A2 := by
              rcases a2 with _ | A2
              · exfalso
                rcases HR.out.2 with ⟨-, h0⟩ | ⟨b9, cap9, cur9, hv9, -⟩
                · omega
                · cases hv9
              · exact ⟨_, rfl⟩
            obtain ⟨g2, rfl, -⟩ := ha2 A2 hA2
            subst hA2
            obtain ⟨rg, hrg⟩ : ∃ rg, rs[j]? = some rg := ⟨_, List.getElem?_eq_getElem (by omega)⟩
            obtain ⟨c0, c1⟩ := V.RO.cell HR.out hrg
            have y2 := S.later hbj c0
            have y3 := S.later hbj c1
            have hno := HNO.out rg (List.mem_of_getElem? hrg)
            have y4 : (0 : Int) ≤ (j : Int) := by omega
            have hbB := S.bt hbj (S.bel1 wr (.cells #[.int .i64 rg.1, .int .i64 rg.2] 43))
            clear hw11
            cases hem : str2.toList.isEmpty with
            | true =>
              go_wp2
              go_roundw
              case rel => exact ⟨j + 1, by omega, by first | rfl | simp, hbB⟩
              case measure => first | omega | (simp only [RowKit.intOf]; omega) | (simp [RowKit.intOf]; omega)
            | false =>
              go_wp2
              go_roundw
              case rel => exact ⟨j + 1, by omega, by first | rfl | simp, hbB⟩
              case measure => first | omega | (simp only [RowKit.intOf]; omega) | (simp [RowKit.intOf]; omega)
          · have y1 : ¬ (j : Int) < (ln : Int) := by omega
            go_wp2
            go_meet
            case rel => exact ⟨p, e1, s, by rw [HNA.out], by rw [HST2.out], ⟨HSE.out, HK.out.later hbj⟩, HBB.out.later hbj, hb10s.trans (hbj.mono HK.out.pj.bs)⟩
    case rest =>
    obtain ⟨ea, ee, s2, rfl, rfl, HSN, HB, hb9⟩ := hcut
    obtain ⟨w9, hw9⟩ : ∃ x, x = wc := ⟨wc, rfl⟩
    subst hw9
    clear hT8 hB8 hb8 hss HS1 HST hstl
    have hT9 := HSN.out.2
    have HSE : Hid (Sent T'.length p r s (1 + mm) ea ee s2) := HSN.out.1
    have hB9 := HB.out
    clear HSN HB
    have hbd : p ≤ ea ∧ ea ≤ ee ∧ ee ≤ s2 ∧ s2 ≤ T'.length ∧ r ≤ p := by
      have h1 := hT9.ti.sT
      have h2 := hT9.ti.rp
      have h3 := HTI0.out.ps
      rcases HSE.out with ⟨rfl, rfl, h4, h5⟩ | ⟨rfl, rfl, h4, h5, h6, h7⟩ <;> omega
    rw [← HTR.out]
    obtain ⟨str, hstr⟩ : ∃ x, x = tx (pc T' ea ee) := ⟨_, rfl⟩
    have hstl : str.toList.isEmpty = decide (ea = ee) := by
      rw [hstr, S.em_any, tx_size, pc_len (by omega)]
      by_cases q1 : ea = ee
      · rw [decide_eq_true q1, decide_eq_true (by omega)]
      · rw [decide_eq_false q1, decide_eq_false (by omega)]
    rw [← hstr]
    have HST : Hid (str = tx (pc T' ea ee)) := hstr
    obtain ⟨rd, hrd⟩ : ∃ x, x = tx (T'.take r) := ⟨_, rfl⟩
    obtain ⟨sw, hsw⟩ : ∃ x, x = tx T' := ⟨_, rfl⟩
    rw [← hrd, ← hsw]
    have hrs : rd.size = r := by rw [hrd, tx_size, List.length_take]; omega
    have hws : sw.size = T'.length := by rw [hsw, tx_size]
    have HRD : Hid (rd = tx (T'.take r)) := hrd
    have HSW : Hid (sw = tx T') := hsw
    clear hstr hrd hsw
    have hle : r ≤ T'.length := by omega
    go_upto_region 27 with fail
    go_cut [133] from 53 to 132 (fun s133 W => s133 = .bool (decide (ea = ee ∧ 20 ≤ i ∧ r = T'.length)) ∧ W = w9)
    case first =>
      by_cases q1 : ea = ee
      · rw [decide_eq_true q1] at hstl
        have Q1 : Hid (ea = ee) := q1
        clear q1
        by_cases q2 : 20 ≤ i
        · have y2 : (i : Int) ≥ 20 := by omega
          by_cases q3 : r = T'.length
          · have y3 : ((rd.size : Int) == (sw.size : Int)) = true := by rw [beq_iff_eq]; omega
            go_wp2
            go_meet
            case rel => exact ⟨by rw [decide_eq_true ⟨Q1.out, q2, q3⟩], rfl⟩
          · have y3 : ((rd.size : Int) == (sw.size : Int)) = false := by rw [beq_eq_false_iff_ne]; omega
            have y4 : ¬ (r : Int) = (T'.length : Int) := by omega
            go_wp2
            go_meet
            case rel => exact ⟨by rw [decide_eq_false (fun h => q3 h.2.2), beq_eq_false_iff_ne.2 y4], rfl⟩
        · have y2 : ¬ (20 : Int) ≤ (i : Int) := by omega
          have y3 : (i : Int) < 20 := by omega
          go_wp2
          go_meet
          case rel => exact ⟨by rw [decide_eq_false (fun h => q2 h.2.1)], rfl⟩
      · rw [decide_eq_false q1] at hstl
        go_wp2
        go_meet
        case rel => exact ⟨by rw [decide_eq_false (fun h => q1 h.1)], rfl⟩
    case rest =>
    obtain ⟨rfl, hw10⟩ := hcut
    subst hw10
    obtain ⟨w9, hw9⟩ : ∃ x, x = wc := ⟨wc, rfl⟩
    subst hw9
    clear hstl
    have HCV : Hid (cov C p ps) := HP.out.1
    by_cases hend : ea = ee ∧ 20 ≤ i ∧ r = T'.length
    · rw [decide_eq_true hend]
      have e1 : rd = sw := by rw [HRD.out, HSW.out, hend.2.2, List.take_length]
      clear hend HRD HSW hrs hws
      subst e1
      go_wp2
      go_ret
      exact ⟨by simp, hbase ▸ hb9⟩
    rw [decide_eq_false hend]
    have HEND : Hid (20 ≤ i → ¬ (ea = ee ∧ r = T'.length)) := fun h q => hend ⟨q.1, h, q.2⟩
    clear hend
    obtain ⟨x3, f3⟩ := hB9.at_.2 3 _ rfl
    have hs2b : s2 ≤ p + 1000 := by have := hT9.ti.w; omega
    have hpu := tj_put hT9 hbd.1 hbd.2.1 hbd.2.2.1
    rw [← HST.out] at hpu
    have HT9 : Hid (TJ base w9 A q g T' fi C p r s2 ps) := hT9
    clear hT9
    go_upto_if 139 with fail
    go_cut [143] from 53 to 177 (fun s143 W => ∃ (A' : V.Bk) (C' : Nat → Bool) (p' : Nat), p ≤ p' ∧ Hid (∀ j, C j = true → C' j = true) ∧ Hid (PJ base W A' q g (sQ T' fi p s2 ps) (rQ T' fi C' p' r) ∧ TI T' C' p' r s2) ∧ Hid (20 ≤ i → C' = cNew C ea ee) ∧ Hid (BX W A' xb #[.string t, .int .i64 xm, .int .i64 xr, .bool xl]) ∧ Below base w0 W)
    case first =>
      cases xl with
      | true =>
        clear hpu
        have HNL : Hid (20 ≤ i → C = cNew C ea ee) := fun h => absurd (HTI.out h).2.2.2 (by simp)
        go_wp2
        go_meet
        case rel => exact ⟨A, C, p, Nat.le_refl _, fun j h => h, ⟨HT9.out.pj, HT9.out.ti⟩, HNL, hB9, hb9⟩
      | false =>
        go_wp2_with fail
        refine hpu.mono ?_
        rintro e w10 ⟨x, p', A', rfl, hpp, hP10, hI10, hk10, hg10⟩
        have hB10 := hB9.keep hk10 hg10
        have hb10 := hb9.trans hk10.below
        have HPI : Hid (PJ base w10 A' q g (sQ T' fi p s2 ps) (rQ T' fi (cNew C ea ee) p' r) ∧ TI T' (cNew C ea ee) p' r s2) := ⟨hP10, hI10⟩
        clear hpu hP10 hI10 hk10 hg10 hb9
        go_wp2
        go_meet
        case rel => exact ⟨A', cNew C ea ee, p', hpp, fun j h => cNew_is.2 (Or.inl h), HPI, fun _ => rfl, hB10, hb10⟩
    case rest =>
    obtain ⟨A', C', p', hpp, HCC, HPJ, HCN, HB, hb10⟩ := hcut
    obtain ⟨w10, hw10⟩ : ∃ x, x = wc := ⟨wc, rfl⟩
    subst hw10
    have hB10 := HB.out
    clear hpu HT9 hB9 hb9 HB x3 f3
    obtain ⟨x2, f2⟩ := hB10.at_.2 2 _ rfl
    go_wp2_with fail
    refine (among_any xr 101 w10 (by decide) (by decide)).mono ?_
    rintro e w11 ⟨rfl, hw11⟩
    subst hw11
    obtain ⟨rr, hrr⟩ : ∃ rr : Nat, xr % 101 = (rr : Int) := ⟨(xr % 101).toNat, by omega⟩
    have HRR : Hid (20 ≤ i → rr = 100) := fun h => by have := (HTI.out h).2.2.1; omega
    rw [hrr]
    clear hrr x2 f2
    have hre := pj_readt HPJ.out.1 HPJ.out.2 rr
    go_wp2_with fail
    refine hre.mono ?_
    rintro e w12 ⟨r', rfl, hr', hP12, hI12, hk12⟩
    have hb12 := hb10.trans hk12.below
    have hr1 : r ≤ r' ∧ r' ≤ T'.length := by have := hI12.rp; have := hI12.ps; have := hI12.sT; omega
    have HR' : Hid (r' = r + min rr (p' - r)) := hr'
    have hpl : (tx (pc T' r r')).size = r' - r := by rw [tx_size, pc_len hr1.2]
    have hcc : ¬ 9223372036854775807 < rd.size + (tx (pc T' r r')).size := by omega
    obtain ⟨rd2, hrd2⟩ : ∃ x, x = rd ++ tx (pc T' r r') := ⟨_, rfl⟩
    have HR2 : Hid (rd2 = tx (T'.take r')) := by
      rw [hrd2, HRD.out, tx_app]
      congr 1
      unfold pc
      rw [show T'.take r = (T'.take r').take r by rw [List.take_take, Nat.min_eq_left hr1.1]]
      exact List.take_append_drop r _
    have HRDD : Hid (rd ++ tx (pc T' r r') = rd2) := hrd2.symm
    have hrd2l : rd2.size = r' := by rw [HR2.out, tx_size, List.length_take]; omega
    have hle2 : ¬ (sw.size : Int) < (rd2.size : Int) := by omega
    have hle3 : (rd2.size : Int) ≤ (sw.size : Int) := by omega
    have hsl2 : ∀ W, (Instr.slice 9 (.string sw) none (some (.int .i64 (rd2.size : Int))) none).run Try.prog W = .ok (.string rd2) W := fun W => by
      have e9 : sw.extract 0 rd2.size = rd2 := by
        rw [S.strB_extract, List.drop_zero, Nat.sub_zero]
        rw [hrd2l, HR2.out, HSW.out, tx_list]
        rfl
      simp [Instr.slice, Instr.sliceBounds, Instr.sliceBound, asIntOf, run_underlying Try.underlying9, Result.andThen]
      simp [show rd2.size ≤ sw.size by omega, e9]
    have hst : (rd2.toList != rd2.toList) = false := by simp
    have HP12 : Hid (PJ base w12 A' q g (sQ T' fi p s2 ps) (rQ T' fi C' p' r') ∧ TI T' C' p' r' s2) := ⟨hP12, hI12⟩
    have HRL : Hid (rd2.size = r') := hrd2l
    clear hre hk12 hb10 hB10 hr' hpl hrd2 hrd2l hrs hws hP12 hI12
    go_upto_region 32 with fail
    rw [HRDD.out]
    have hex : Calls Try.prog 16 #[PQ g] w12 fun e W' => e = .returned (.int .i64 ((fi + (p' : Int)) % 4294967296)) ∧ W' = w12 := pj_exp HP12.out.1
    go_wp2_with fail
    refine hex.mono ?_
    rintro e w13 ⟨rfl, hw13⟩
    subst hw13
    clear hsl2 hst hle2 hle3 hcc hex
    have hak := pj_ackt HP12.out.1 HP12.out.2 hpp hs2b HCV.out
    go_wp2_with fail
    refine hak.mono ?_
    rintro e w14 ⟨x, ps', rfl, hT14, hcv14, hk14⟩
    have hb14 := hb12.trans hk14.below
    have HCV14 : Hid (cov C p' ps') := hcv14
    clear hak hk14 hcv14 hb12
    go_wp2_with fail
    refine (tj_told hT14).mono ?_
    rintro e w15 ⟨v, rfl, hR15, hT15, hk15, hb15'⟩
    have hb15 := hb14.trans hk15.below
    clear hT14 hk15 hb14 hb15'
    go_wp2_with fail
    refine (tj_apart hT15 HCC.out HCV14.out hR15).mono ?_
    rintro e w16 ⟨y, ps'', rfl, hT16, hcv16, hk16⟩
    have hb16 := hb15.trans hk16.below
    have HIN : Hid (Inv base w16 q g fi (i + 1) sw rd2) := by
      refine ⟨A', T', C', p', r', s2, ps'', hT16, hcv16, HSW.out, HR2.out, hlen, fun h21 => ?_⟩
      have h20 : 20 ≤ i := by omega
      have e1 := HM.out h20
      have e3 := HT20.out h20
      have hr2 : r' = r + min 100 (p' - r) := by have := HR'.out; rw [HRR.out h20] at this; exact this
      refine ⟨after50 HPJ.out.2 hr2, ?_⟩
      rcases Nat.lt_or_ge i 21 with q1 | q1
      · have := pot_first hT16.ti
        omega
      · obtain ⟨k1, k2⟩ := HP.out.2.2 q1
        have hC : C' = cNew C ea ee := HCN.out h20
        have hS := HSE.out
        rw [e1] at hS
        have hI := HPJ.out.2
        rw [hC] at hI
        have hl := live HTI0.out hS hI hpp hr2 k1 (HEND.out h20)
        rw [← hC] at hl
        rw [← e3] at k2
        omega
    clear hT15 hR15 hb15 hT16 hcv16 hk16
    go_wp2
    go_roundw
    case rel => exact ⟨i + 1, sw, rd2, by first | rfl | simp, by omega, rfl, rfl, HIN, hb16⟩
    case measure => first | omega | (simp only [RowKit.intOf]; omega) | (simp [RowKit.intOf]; omega)
end Go.Proofs.Ytkclookpdngkoaa
