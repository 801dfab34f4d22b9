/- RecvqStream: the walk. -/
import Derived.Test.YtiglaalppaljbaaVo
namespace Go.Proofs.Ytiglaalppaljbaa
open Go.RowKit Go.Maps Go.Lib
set_option maxRecDepth 100000
set_option linter.unusedVariables false
set_option linter.unusedSimpArgs false


/-- What the walk keeps. -/
structure KS (w : World) (R g q : Nat) (T : List UInt8) (fi : Int) (C : Nat → Bool) (p r : Nat) : Prop where
  h : HG w R g q (tQ T fi C p r)
  s : SI T C p r
  c : At w g (gArr C)
theorem KS.later {w w' : World} {R g q : Nat} {T : List UInt8} {fi : Int} {C : Nat → Bool} {p r : Nat} (k : KS w R g q T fi C p r) (hb : Below w.heap.size w w') : KS w' R g q T fi C p r := ⟨k.h.later hb, k.s, k.c.later hb⟩
theorem tQ_room (T : List UInt8) (fi : Int) (C : Nat → Bool) (p r : Nat) : (tQ T fi C p r).room = 100 := rfl
theorem tQ_next (T : List UInt8) (fi : Int) (C : Nat → Bool) (p r : Nat) : (tQ T fi C p r).next = (fi + (p : Int)) % 4294967296 := rfl
set_option maxHeartbeats 8000000 in
theorem stream_any (first : Int) (s : ByteArray) (a : Option Addr) (n cap : Nat) (w : World) (hs : s.size ≤ 9223372036854775807) (hr : Flat.Rows w a n 3 [.i, .i, .i]) (hz : n < 1000000000000000) :
    Calls Try.prog 4 #[.int .i64 first, .string s, .slice a n cap] w fun e w' => e = .returned (.bool true) ∧ Below w.heap.size w w' := by
  have HA : Hid (Flat.Rows w a n 3 [.i, .i, .i]) := hr
  have hTl : s.data.toList.length = s.size := Array.length_toList
  clear hr
  go_enter Try.func4, Try.ntmps4
  go_wp2_with fail
  refine (works_any w).mono ?_
  rintro e w1 ⟨rfl, hb1⟩
  by_cases hbig : 300 < s.size
  · have hbI : (300 : Int) < (s.size : Int) := by omega
    go_wp2
    go_ret
    exact ⟨rfl, hb1⟩
  have hbI : ¬ (300 : Int) < (s.size : Int) := by omega
  go_wp2_with fail
  refine (among_any first 4294967296 w1 (by decide) (by decide)).mono ?_
  rintro e w2 ⟨rfl, rfl⟩
  obtain ⟨fi, hfi⟩ : ∃ x, x = first % 4294967296 := ⟨_, rfl⟩
  have hf0 : 0 ≤ fi ∧ fi ≤ 4294967295 := by rw [hfi]; exact mod_rng _
  rw [← hfi]
  clear hfi
  have hnew := hq_new fi 100 w2 hf0.1 hf0.2 (by omega) (by omega)
  rw [show ((100 : Nat) : Int) = 100 from rfl] at hnew
  go_wp2_with fail
  refine hnew.mono ?_
  rintro e w3 ⟨rfl, hX3, hb3⟩
  clear hnew
  have hbw := bt hb1 hb3
  have hwR : w.heap.size ≤ w2.heap.size := hb1.size
  have hR3 : w2.heap.size ≤ w3.heap.size := hb3.size
  generalize hq : w2.heap.size + 1 = q at *
  generalize hz2 : w2.heap.size = R at *
  clear hq hz2 hb3 hb1
  rw [← tQ_zero s.data.toList hf0.1 hf0.2] at hX3
  have hz58 := zeroG w3
  have hbG := bel1 w3 (.cells (gArr fun _ => false) 49)
  have HK4 : Hid (KS (w3.alloc (.cells (gArr fun _ => false) 49)) R w3.heap.size q s.data.toList fi (fun _ => false) 0 0) := ⟨hX3.hg _ _, si_zero _, At.box _ _ _⟩
  go_upto_region 10 with fail
  have hb4 := bt hbw hbG
  have hR4 := Nat.le_trans hR3 hbG.size
  generalize hgB : w3.heap.size = gB at *
  have hG4 : gB < (w3.alloc (.cells (gArr fun _ => false) 49)).heap.size := HK4.out.c.1
  have hRg : R ≤ gB := hR3
  clear hgB hX3 hbG hbw hz58 hR3
  generalize w3.alloc (.cells (gArr fun _ => false) 49) = w4 at *
  go_wp2_with fail
  try go_frame
  go_loopw [10, 11] (fun s10 s11 wr => ∃ (k : Nat) (C : Nat → Bool) (p r : Nat) (rd : ByteArray), s11 = .int .i64 (k : Int) ∧ k ≤ n ∧ s10 = .string rd ∧ Hid (rd = strB (s.data.toList.take r) ∧ KS wr R gB q s.data.toList fi C p r) ∧ Below w.heap.size w wr ∧ R ≤ wr.heap.size ∧ gB < wr.heap.size) (fun _ s11 _ => n - (RowKit.intOf s11).toNat)
  case atStart => exact ⟨0, _, 0, 0, _, rfl, Nat.zero_le _, rfl, ⟨rfl, HK4.out⟩, hb4, hR4, hG4⟩
  case round =>
    clear HK4 hR4 hb4 hG4
    obtain ⟨k, C, p, r, rd, rfl, hkn, rfl, HK, hb, hRr, hGr⟩ := hrel
    go_upto_region 12 with fail
    go_cut [54] from 47 to 53 (fun s54 W => s54 = .bool (decide (k < n ∧ k < 40)) ∧ W = wr)
    case first =>
      by_cases z0 : k < n
      · have z2 : (k : Int) < (n : Int) := by omega
        by_cases z1 : k < 40
        · have z3 : (k : Int) < 40 := by omega
          go_wp2
          go_meet
          case rel => exact ⟨by rw [decide_eq_true ⟨z0, z1⟩], rfl⟩
        · have z3 : ¬ (k : Int) < 40 := by omega
          go_wp2
          go_meet
          case rel => exact ⟨by rw [decide_eq_false (fun h => z1 h.2)], rfl⟩
      · have z2 : ¬ (k : Int) < (n : Int) := by omega
        go_wp2
        go_meet
        case rel => exact ⟨by rw [decide_eq_false (fun h => z0 h.1)], rfl⟩
    case rest =>
    obtain ⟨rfl, hw4⟩ := hcut
    subst hw4
    obtain ⟨wr, hw4⟩ : ∃ x, x = wc := ⟨wc, rfl⟩
    subst hw4
    by_cases hlt : k < n ∧ k < 40
    rotate_left
    · -- @9
      rw [decide_eq_false hlt]
      clear hlt
      have hsI : (s.size : Int) ≤ 300 := by omega
      go_wp2_with fail
      try go_frame
      go_loopw [10, 192] (fun s10 s192 W => ∃ (i : Nat) (C : Nat → Bool) (p r : Nat) (rd : ByteArray), s192 = .int .i64 (i : Int) ∧ i ≤ s.size + 1 ∧ s10 = .string rd ∧ Hid (rd = strB (s.data.toList.take r) ∧ HG W R gB q (tQ s.data.toList fi C p r) ∧ SI s.data.toList C p r) ∧ Hid (min s.size i ≤ p ∧ ∀ j, i = j + 1 → min s.size j ≤ r) ∧ Below w.heap.size w W ∧ R ≤ W.heap.size ∧ gB < W.heap.size) (fun _ s192 _ => s.size + 1 - (RowKit.intOf s192).toNat)
      case atStart => exact ⟨0, C, p, r, rd, rfl, Nat.zero_le _, rfl, ⟨HK.out.1, HK.out.2.h, HK.out.2.s⟩, ⟨by omega, fun j hj => by omega⟩, hb, hRr, hGr⟩
      case round =>
        clear HK hb hRr hGr
        obtain ⟨i, C, p, r, rd, rfl, hi, rfl, HK, HP, hb, hRr, hGr⟩ := hrel
        have hpr : r ≤ p ∧ p ≤ s.size ∧ p ≤ r + 100 := ⟨HK.out.2.2.rp, by rw [← hTl]; exact HK.out.2.2.pN, HK.out.2.2.w⟩
        by_cases hil : i < s.size + 1
        · have z1 : (i : Int) < (s.size : Int) + 1 := by omega
          go_wp2_with fail
          refine (st_read HK.out.2.1 HK.out.2.2 hRr 100).mono ?_
          rintro e w5 ⟨nr, rs, rfl, hnr, hH5, hS5, hcat, hrs, hb5, hk5⟩
          have hr2 : r + nr = p := by omega
          rw [hr2] at hH5 hS5 hcat
          have hbw5 := hb.trans (hb5.mono hwR)
          have hR5 := Nat.le_trans hRr hb5.size
          have hG5 := Nat.lt_of_lt_of_le hGr hb5.size
          rw [← HK.out.1] at hcat
          have hrdl : rd.size = r := by rw [HK.out.1, strB_size, List.length_take]; omega
          have hcc : ¬ 9223372036854775807 < rd.size + rs.size := by omega
          obtain ⟨rd2, hrd2⟩ : ∃ x, x = rd ++ rs := ⟨_, rfl⟩
          have HR2 : Hid (rd2 = strB (s.data.toList.take p)) := by rw [hrd2]; exact hcat
          have hrd2l : rd2.size = p := by rw [HR2.out, strB_size, List.length_take]; omega
          have HRD : Hid (rd ++ rs = rd2) := hrd2.symm
          have hadd := adds (n := (rd2.size : Int)) hf0 (by rw [hrd2l]; omega) w5
          have hnx := hq_next hH5.hq
          rw [tQ_next] at hnx
          rw [hrd2l] at hadd
          obtain ⟨ee, hee⟩ : ∃ m : Nat, m = min s.size (p + 50) := ⟨_, rfl⟩
          have hput := st_put hH5 hS5 hf0.1 hf0.2 (by omega) (show p ≤ ee by omega) (by rw [hTl]; omega) hR5 hG5
          obtain ⟨na, hna⟩ : ∃ x, x = (fi + (p : Int)) % 4294967296 := ⟨_, rfl⟩
          rw [← hna] at hadd hput hnx
          obtain ⟨tx, htx⟩ : ∃ x, x = s.extract p ee := ⟨_, rfl⟩
          rw [← htx] at hput
          have hsl : ∀ W, (Instr.slice 9 (.string s) (some (.int .i64 (rd2.size : Int))) (some (.int .i64 (ee : Int))) none).run Try.prog W = .ok (.string tx) W := fun W => by
            rw [htx, hrd2l]
            simp [Instr.slice, Instr.sliceBounds, Instr.sliceBound, asIntOf, run_underlying Try.underlying9, Result.andThen]
            simp [show p ≤ ee by omega, show ee ≤ s.size by omega]
          have hmin : min (s.size : Int) ((rd2.size : Int) + 50) = (ee : Int) := by rw [hrd2l]; omega
          have hrI : (rd2.size : Int) ≤ 300 := by rw [hrd2l]; omega
          rw [← hrd2l] at hadd
          have hadd' : Calls Try.prog 23 #[.int .i64 fi, .int .i64 (rd2.size : Int)] w5 fun e w' => e = .returned (.tuple #[.int .i64 na, .int .i64 0]) ∧ w' = w5 := hadd
          have hnn : (na != na) = false := by simp
          have HPP : Hid (p + (100 - (p - p)) = p + 100 ∧ rd2.size = p ∧ ee = min s.size (p + 50)) := ⟨by omega, hrd2l, hee⟩
          clear hrd2 hrd2l hrdl hnr hcat hrs hk5 hb5 hr2 hna htx hee hadd
          go_upto_region 38 with fail
          rw [HRD.out]
          go_wp2_with fail
          refine hadd'.mono ?_
          rintro e w6 ⟨rfl, hw6⟩
          subst hw6
          go_wp2_with fail
          refine hnx.mono ?_
          rintro e w7 ⟨rfl, hw7⟩
          subst hw7
          go_wp2_with fail
          refine hput.mono ?_
          rintro e w8 ⟨m, rfl, hH8, hS8, hall, hb8, hk8⟩
          have hbw8 := hbw5.trans (hb8.mono hwR)
          have hR8 := Nat.le_trans hR5 hb8.size
          have hG8 := Nat.lt_of_lt_of_le hG5 hb8.size
          have hfin : ee ≤ p + m := by
            rcases Nat.lt_or_ge (p + m) ee with h | h
            · have h1 := hS8.at_
              unfold cNew at h1
              have h2 := HPP.out.2.2
              rw [decide_eq_true (show p ≤ p + m by omega), decide_eq_true h, decide_eq_true (show p + m < p + (100 - (p - p)) by omega)] at h1
              simp at h1
            · exact h
          have HF : Hid (min s.size (i + 1) ≤ p + m ∧ ∀ j, i + 1 = j + 1 → min s.size j ≤ p) := by
            have h1 := HP.out.1
            have h2 := HPP.out.2.2
            refine ⟨by omega, fun j hj => ?_⟩
            obtain rfl : j = i := by omega
            exact h1
          have HK8 : Hid (rd2 = strB (s.data.toList.take p) ∧ HG w8 R gB q (tQ s.data.toList fi (cNew C p ee (p + (100 - (p - p)))) (p + m) p) ∧ SI s.data.toList (cNew C p ee (p + (100 - (p - p)))) (p + m) p) := ⟨HR2.out, hH8, hS8⟩
          clear hput hadd' hnx hsl hH8 hS8 hall hb8 hk8 hH5 hS5
          go_wp2
          go_roundw
          case rel => exact ⟨i + 1, _, _, _, rd2, by first | rfl | simp, by omega, rfl, HK8, HF, hbw8, hR8, hG8⟩
          case measure => first | omega | (simp only [RowKit.intOf]; omega) | (simp [RowKit.intOf]; omega)
        · have z1 : ¬ (i : Int) < (s.size : Int) + 1 := by omega
          have hrN : r = s.size := by have := HP.out.2 s.size (by omega); omega
          have hrs : rd = s := by rw [HK.out.1, hrN, ← hTl, List.take_length, strB_list]
          subst hrs
          clear hrN
          go_wp2
          go_ret
          exact ⟨by simp, hb⟩
      -- @/9
    · -- @1
      rw [decide_eq_true hlt]
      obtain ⟨ab, off, rfl, hrow⟩ : ∃ b off, a = some ⟨b, off, none⟩ ∧ ∀ k, k < n → ∃ cs : List Value, Flat.Ok [.i, .i, .i] cs ∧ ∀ j v, cs[j]? = some v → w.cell? ⟨b, off + k * 3 + j, none⟩ = some v := by
        rcases HA.out with h | h
        · omega
        · exact h
      obtain ⟨cs, ⟨hcl, hck⟩, hcc⟩ := hrow k hlt.1
      clear hrow
      match cs, hcl with
      | [v0, v1, v2], _ =>
      obtain ⟨xa, rfl, wxa⟩ := hck 0 _ _ rfl rfl
      obtain ⟨xl, rfl, wxl⟩ := hck 1 _ _ rfl rfl
      obtain ⟨xr, rfl, wxr⟩ := hck 2 _ _ rfl rfl
      have x0 : ∀ W, Below w.heap.size w W → W.cell? ⟨ab, off + k * 3, none⟩ = some (.int .i64 xa) := fun W hW => later hW (hcc 0 _ rfl)
      have x1 : ∀ W, Below w.heap.size w W → W.cell? ⟨ab, off + k * 3 + 1, none⟩ = some (.int .i64 xl) := fun W hW => later hW (hcc 1 _ rfl)
      have x2 : ∀ W, Below w.heap.size w W → W.cell? ⟨ab, off + k * 3 + 2, none⟩ = some (.int .i64 xr) := fun W hW => later hW (hcc 2 _ rfl)
      clear hcc hck
      have hk1 : (k : Int) < (n : Int) := by omega
      have hk2 : (k : Int) < 40 := by omega
      have hk3 : (0 : Int) ≤ (k : Int) := by omega
      have hsI : (s.size : Int) ≤ 300 := by omega
      have y0 := x0 wr hb
      have y1 := x1 wr hb
      have hpr : r ≤ p ∧ p ≤ s.size ∧ p ≤ r + 100 := ⟨HK.out.2.s.rp, by rw [← hTl]; exact HK.out.2.s.pN, HK.out.2.s.w⟩
      go_wp2_with fail
      refine (among_any xa ((s.size : Int) + 1) wr (by omega) (by omega)).mono ?_
      rintro e w5 ⟨rfl, rfl⟩
      obtain ⟨aa, haa⟩ : ∃ m : Nat, xa % ((s.size : Int) + 1) = (m : Int) := ⟨(xa % ((s.size : Int) + 1)).toNat, by have := Int.emod_nonneg xa (show ((s.size : Int) + 1) ≠ 0 by omega); omega⟩
      have haa1 : aa ≤ s.size := by have := Int.emod_lt_of_pos xa (show 0 < ((s.size : Int) + 1) by omega); omega
      rw [haa]
      clear haa
      go_wp2_with fail
      refine (among_any xl 120 w5 (by decide) (by decide)).mono ?_
      rintro e w6 ⟨rfl, rfl⟩
      obtain ⟨ml, hml⟩ : ∃ m : Nat, xl % 120 = (m : Int) := ⟨(xl % 120).toNat, by omega⟩
      have hml1 : ml < 120 := by omega
      rw [hml]
      clear hml
      obtain ⟨ee, hee⟩ : ∃ m : Nat, m = min s.size (aa + ml) := ⟨_, rfl⟩
      have hmin : min (s.size : Int) ((aa : Int) + (ml : Int)) = (ee : Int) := by omega
      have hee1 : aa ≤ ee ∧ ee ≤ s.size := by omega
      have HMI : Hid (min (s.size : Int) ((aa : Int) + (ml : Int)) = (ee : Int)) := hmin
      clear hmin hee y0 y1
      go_upto_region 16 with fail
      rw [HMI.out]
      have hnx := hq_next HK.out.2.h.hq
      rw [tQ_next] at hnx
      go_wp2_with fail
      refine hnx.mono ?_
      rintro e w7 ⟨rfl, rfl⟩
      have hds := dists hf0 (mod_rng (fi + (p : Int))) w7
      rw [show ((fi + (p : Int)) % 4294967296 - fi) % 4294967296 = (p : Int) by omega] at hds
      go_wp2_with fail
      refine hds.mono ?_
      rintro e w8 ⟨rfl, rfl⟩
      have hwn := hq_window HK.out.2.h.hq
      rw [tQ_len HK.out.2.s, tQ_room] at hwn
      obtain ⟨wi, hwi⟩ : ∃ m : Nat, m = 100 - (p - r) := ⟨_, rfl⟩
      rw [← hwi] at hwn
      clear hnx hds
      go_wp2_with fail
      refine hwn.mono ?_
      rintro e w9 ⟨rfl, hb9⟩
      have HK9 : Hid (rd = strB (s.data.toList.take r) ∧ KS w9 R gB q s.data.toList fi C p r) := ⟨HK.out.1, HK.out.2.later hb9⟩
      have hbw9 := bt hb hb9
      have hR9 := Nat.le_trans hRr hb9.size
      have hG9 := Nat.lt_of_lt_of_le hGr hb9.size
      clear HK hwn hb hb9 hRr hGr
      have hadd := adds (n := (aa : Int)) hf0 (by omega) w9
      have hput := st_put HK9.out.2.h HK9.out.2.s hf0.1 hf0.2 (by omega) hee1.1 (by rw [hTl]; exact hee1.2) hR9 hG9
      rw [← hwi] at hput
      obtain ⟨na, hna⟩ : ∃ x, x = (fi + (aa : Int)) % 4294967296 := ⟨_, rfl⟩
      rw [← hna] at hadd hput
      have hx1 : aa ≤ s.size := haa1
      have hx2 : (aa : Int) ≤ (ee : Int) := by omega
      have hx3 : (ee : Int) ≤ (s.size : Int) := by omega
      have HWI : Hid (wi = 100 - (p - r)) := hwi
      have hwi1 : wi ≤ 100 := by omega
      have hlm : p + wi ≤ 400 := by omega
      clear hna hwi
      go_wp2_with fail
      refine hadd.mono ?_
      rintro e w10 ⟨rfl, rfl⟩
      obtain ⟨tx, htx⟩ : ∃ x, x = s.extract aa ee := ⟨_, rfl⟩
      have hsl : ∀ W, (Instr.slice 9 (.string s) (some (.int .i64 (aa : Int))) (some (.int .i64 (ee : Int))) none).run Try.prog W = .ok (.string tx) W := fun W => by
        rw [htx]
        simp [Instr.slice, Instr.sliceBounds, Instr.sliceBound, asIntOf, run_underlying Try.underlying9, Result.andThen]
        simp [hee1.1, hee1.2]
      rw [← htx] at hput
      clear htx
      go_wp2_with fail
      refine hput.mono ?_
      rintro e w11 ⟨m, rfl, hH11, hS11, hall, hb11, hk11⟩
      have hC11 := hk11 _ HK9.out.2.c
      have HR : Hid (rd = strB (s.data.toList.take r)) := HK9.out.1
      have hS9 := HK9.out.2.s
      have hbw11 := hbw9.trans (hb11.mono hwR)
      have hR11 := Nat.le_trans hR9 hb11.size
      have hG11 := Nat.lt_of_lt_of_le hG9 hb11.size
      clear hput hadd hsl hk11 hb11 HK9 hbw9 hR9 hG9 HMI
      obtain ⟨pm, hpme⟩ : ∃ x, x = p + m := ⟨_, rfl⟩
      rw [← hpme] at hH11 hS11 hall
      have hpm : pm ≤ s.size := by have := hS11.pN; omega
      have hpm2 : r ≤ pm ∧ pm ≤ r + 100 ∧ p ≤ pm := ⟨hS11.rp, hS11.w, by omega⟩
      have HPM : Hid (pm = p + m) := hpme
      clear hpme
      have HS11 : Hid (SI s.data.toList (cNew C aa ee (p + wi)) pm r) := hS11
      have HALL : Hid (∀ j, p ≤ j → j < pm → cNew C aa ee (p + wi) j = true) := hall
      clear hS11 hall hS9
      go_wp2_with fail
      try go_frame
      go_loopw [21] (fun s21 W => ∃ j : Nat, aa ≤ j ∧ j ≤ ee ∧ s21 = .int .i64 (j : Int) ∧ Hid (HG W R gB q (tQ s.data.toList fi (cNew C aa ee (p + wi)) pm r) ∧ At W gB (gArr (cNew C aa j (p + wi)))) ∧ Below w.heap.size w W ∧ R ≤ W.heap.size ∧ gB < W.heap.size) (fun s21 _ => ee - (RowKit.intOf s21).toNat)
      case atStart => exact ⟨aa, Nat.le_refl _, hee1.1, rfl, ⟨hH11, by rw [gArr_eq (G' := C) (fun t _ => cNew_start t)]; exact hC11⟩, hbw11, hR11, hG11⟩
      case round =>
        clear hH11 hC11 hbw11 hR11 hG11
        obtain ⟨j, hj1, hj2, rfl, HJ, hbj, hRj, hGj⟩ := hrel
        go_upto_region 23 with fail
        go_cut [118] from 111 to 117 (fun s118 W => s118 = .bool (decide (j < ee ∧ j < p + wi)) ∧ W = wr)
        case first =>
          by_cases z0 : j < ee
          · have z2 : (j : Int) < (ee : Int) := by omega
            by_cases z1 : j < p + wi
            · have z3 : (j : Int) < (p : Int) + (wi : Int) := by omega
              go_wp2
              go_meet
              case rel => exact ⟨by rw [decide_eq_true ⟨z0, z1⟩], rfl⟩
            · have z3 : ¬ (j : Int) < (p : Int) + (wi : Int) := by omega
              go_wp2
              go_meet
              case rel => exact ⟨by rw [decide_eq_false (fun h => z1 h.2)], rfl⟩
          · have z2 : ¬ (j : Int) < (ee : Int) := by omega
            go_wp2
            go_meet
            case rel => exact ⟨by rw [decide_eq_false (fun h => z0 h.1)], rfl⟩
        case rest =>
        obtain ⟨rfl, hw4⟩ := hcut
        subst hw4
        obtain ⟨wr, hw4⟩ : ∃ x, x = wc := ⟨wc, rfl⟩
        subst hw4
        by_cases hjl : j < ee ∧ j < p + wi
        · -- @2
          rw [decide_eq_true hjl]
          obtain ⟨hj3, hj4⟩ := hjl
          obtain ⟨cj, fj⟩ := HJ.out.2.2 j _ (gArr_at _ (show j < 301 by omega))
          have z3 : j < 301 := by omega
          have z4 : (j : Int) < 301 := by omega
          have HN : Hid (HG (wr.setCell ⟨gB, j, none⟩ (.bool true)) R gB q (tQ s.data.toList fi (cNew C aa ee (p + wi)) pm r) ∧ At (wr.setCell ⟨gB, j, none⟩ (.bool true)) gB (gArr (cNew C aa (j + 1) (p + wi)))) := by
            refine ⟨HJ.out.1.turn (turn_set _ _ _ _), ?_⟩
            have := HJ.out.2.set j (.bool true)
            rw [gArr_set, gArr_eq (fun t _ => cNew_step hj1 hj4 t)] at this
            exact this
          have hbn : Below w.heap.size w (wr.setCell ⟨gB, j, none⟩ (.bool true)) := hbj.trans ((turn_set wr gB j (.bool true)).below hbj.size (fun k hk e => by omega))
          go_wp2
          go_roundw
          case rel => exact ⟨j + 1, by omega, by omega, by first | rfl | simp, HN, hbn, by simp; omega, by simp; omega⟩
          case measure => first | omega | (simp only [RowKit.intOf]; omega) | (simp [RowKit.intOf]; omega)
          -- @/2
        · have hend : gArr (cNew C aa j (p + wi)) = gArr (cNew C aa ee (p + wi)) := by
            rcases Nat.lt_or_ge j ee with h | h
            · exact gArr_eq (fun t _ => cNew_end hj2 (by omega) t)
            · rw [show j = ee by omega]
          have HJ2 : Hid (HG wr R gB q (tQ s.data.toList fi (cNew C aa ee (p + wi)) pm r) ∧ At wr gB (gArr (cNew C aa ee (p + wi)))) := ⟨HJ.out.1, by rw [← hend]; exact HJ.out.2⟩
          clear HJ hend
          rw [decide_eq_false hjl]
          clear hjl
          obtain ⟨w12, hw12⟩ : ∃ x, x = wr := ⟨wr, rfl⟩
          subst hw12
          have hC12 := HJ2.out.2
          have hat := HS11.out.at_
          have hall := HALL.out
          obtain ⟨C2, hC2⟩ : ∃ x, x = cNew C aa ee (p + wi) := ⟨_, rfl⟩
          rw [← hC2] at hC12 hat hall HJ2 HS11
          clear hC2 HALL
          have HA2 : Hid (C2 pm = false ∧ ∀ j, p ≤ j → j < pm → C2 j = true) := ⟨hat, hall⟩
          clear hat hall
          go_wp2_with fail
          try go_frame
          go_loopw [22] (fun s22 W => ∃ j2 : Nat, p ≤ j2 ∧ j2 ≤ pm ∧ s22 = .int .i64 (j2 : Int) ∧ W = w12) (fun s22 _ => pm - (RowKit.intOf s22).toNat)
          case atStart => exact ⟨p, Nat.le_refl _, hpm2.2.2, rfl, rfl⟩
          case round =>
            obtain ⟨j2, hj5, hj6, rfl, hwe⟩ := hrel
            subst hwe
            obtain ⟨w12, hw12⟩ : ∃ x, x = wr := ⟨wr, rfl⟩
            subst hw12
            have z3 : (j2 : Int) < 301 := by omega
            obtain ⟨cj, fj⟩ := hC12.2 j2 _ (gArr_at _ (show j2 < 301 by omega))
            cases hcj : C2 j2 with
            | true =>
              -- @4
              rw [hcj] at cj
              have hlt2 : j2 < pm := by
                rcases Nat.lt_or_ge j2 pm with h | h
                · exact h
                · have e : j2 = pm := by omega
                  rw [e, HA2.out.1] at hcj
                  cases hcj
              clear hcj
              go_wp2
              go_roundw
              case rel => exact ⟨j2 + 1, by omega, by omega, by first | rfl | simp, by first | rfl | trivial⟩
              case measure => first | omega | (simp only [RowKit.intOf]; omega) | (simp [RowKit.intOf]; omega)
              -- @/4
            | false =>
              rw [hcj] at cj
              have hje : j2 = pm := by
                rcases Nat.lt_or_ge j2 pm with h | h
                · rw [HA2.out.2 j2 hj5 h] at hcj; cases hcj
                · omega
              subst hje
              clear hcj hj5 hj6
              have hnx := hq_next HJ2.out.1.hq
              rw [tQ_next] at hnx
              go_wp2_with fail
              refine hnx.mono ?_
              rintro e w13 ⟨rfl, hw13⟩
              subst hw13
              have hds := dists hf0 (mod_rng (fi + (j2 : Int))) w13
              rw [show ((fi + (j2 : Int)) % 4294967296 - fi) % 4294967296 = (j2 : Int) by omega] at hds
              go_wp2_with fail
              refine hds.mono ?_
              rintro e w14 ⟨rfl, hw14⟩
              subst hw14
              have hrdy := hq_ready HJ2.out.1.hq
              have hwn := hq_window HJ2.out.1.hq
              rw [tQ_len HS11.out] at hrdy
              rw [tQ_len HS11.out, tQ_room] at hwn
              obtain ⟨rdy, hrd⟩ : ∃ x : Nat, x = j2 - r := ⟨_, rfl⟩
              obtain ⟨wnd, hwd⟩ : ∃ x : Nat, x = 100 - rdy := ⟨_, rfl⟩
              rw [← hrd] at hrdy hwn
              rw [← hwd] at hwn
              have hsum : ((rdy : Int) + (wnd : Int) != 100) = false := by rw [bne_eq_false_iff_eq]; omega
              have hkk : ((m : Int) != (j2 : Int) - (p : Int)) = false := by rw [bne_eq_false_iff_eq]; have := HPM.out; omega
              have hjj : ((j2 : Int) != (j2 : Int)) = false := by simp
              have hrw : rdy ≤ 100 ∧ wnd ≤ 100 := by omega
              clear hrd hwd hnx hds cj fj
              go_wp2_with fail
              refine hrdy.mono ?_
              rintro e w15 ⟨rfl, hw15⟩
              subst hw15
              go_wp2_with fail
              refine hwn.mono ?_
              rintro e w16 ⟨rfl, hb16⟩
              have HG16 := HJ2.out.1.later hb16
              have hC16 := hC12.later hb16
              have hbw16 := bt hbj hb16
              have hR16 := Nat.le_trans hRj hb16.size
              have hG16 := Nat.lt_of_lt_of_le hGj hb16.size
              have y2 := x2 w16 hbw16
              clear hrdy hwn hb16 hbj hRj hGj HJ2 hC12
              go_wp2_with fail
              refine (among_any xr 60 w16 (by decide) (by decide)).mono ?_
              rintro e w17 ⟨rfl, hw17⟩
              subst hw17
              obtain ⟨mr, hmr⟩ : ∃ x, x = xr % 60 := ⟨_, rfl⟩
              rw [← hmr]
              clear hmr
              go_wp2_with fail
              refine (st_read HG16 HS11.out hR16 mr).mono ?_
              rintro e w18 ⟨nr, rs, rfl, hnr, hH18, hS18, hcat, hrs, hb18, hk18⟩
              have hnr1 : nr ≤ j2 - r := by omega
              have hC18 := hk18 _ hC16
              have hbw18 := hbw16.trans (hb18.mono hwR)
              have hR18 := Nat.le_trans hR16 hb18.size
              have hG18 := Nat.lt_of_lt_of_le hG16 hb18.size
              rw [← HR.out] at hcat
              have hrdl : rd.size = r := by rw [HR.out, strB_size, List.length_take]; omega
              have hcc : ¬ 9223372036854775807 < rd.size + rs.size := by omega
              obtain ⟨rd2, hrd2⟩ : ∃ x, x = rd ++ rs := ⟨_, rfl⟩
              have HR2 : Hid (rd2 = strB (s.data.toList.take (r + nr))) := by rw [hrd2]; exact hcat
              have hrd2l : rd2.size = r + nr := by rw [HR2.out, strB_size, List.length_take]; omega
              have HRD : Hid (rd ++ rs = rd2) := hrd2.symm
              have HK18 : Hid (KS w18 R gB q s.data.toList fi C2 j2 (r + nr)) := ⟨hH18, hS18, hC18⟩
              have hrdy2 := hq_ready hH18.hq
              rw [tQ_len hS18] at hrdy2
              obtain ⟨rdy2, hrd3⟩ : ∃ x : Nat, x = j2 - (r + nr) := ⟨_, rfl⟩
              rw [← hrd3] at hrdy2
              have hne2 : ((rdy2 : Int) != (j2 : Int) - (rd2.size : Int)) = false := by rw [bne_eq_false_iff_eq, hrd2l]; omega
              have hle2 : ¬ (j2 : Int) < (rd2.size : Int) := by rw [hrd2l]; omega
              have hle3 : (rd2.size : Int) ≤ (s.size : Int) := by rw [hrd2l]; omega
              have hsl2 : ∀ W, (Instr.slice 9 (.string s) none (some (.int .i64 (rd2.size : Int))) none).run Try.prog W = .ok (.string rd2) W := fun W => by
                have e9 : s.extract 0 rd2.size = rd2 := by
                  rw [strB_extract, List.drop_zero, Nat.sub_zero]
                  rw [hrd2l]
                  exact HR2.out.symm
                simp [Instr.slice, Instr.sliceBounds, Instr.sliceBound, asIntOf, run_underlying Try.underlying9, Result.andThen]
                simp [show rd2.size ≤ s.size by omega, e9]
              have hst : (rd2.toList != rd2.toList) = false := by simp
              clear hrd2 hrd3 hrd2l hrdl hnr hcat hrs hk18 hb18 hC16 HG16 hH18 hS18 hC18 hbw16 hR16 hG16 y2 hrw
              go_upto_region 33 with fail
              rw [HRD.out]
              go_wp2_with fail
              refine hrdy2.mono ?_
              rintro e w19 ⟨rfl, hw19⟩
              subst hw19
              go_wp2
              go_roundw
              case rel => exact ⟨k + 1, C2, j2, r + nr, rd2, by first | rfl | simp, by omega, rfl, ⟨HR2.out, HK18.out⟩, hbw18, hR18, hG18⟩
              case measure => first | omega | (simp only [RowKit.intOf]; omega) | (simp [RowKit.intOf]; omega)
      -- @/1
end Go.Proofs.Ytiglaalppaljbaa
