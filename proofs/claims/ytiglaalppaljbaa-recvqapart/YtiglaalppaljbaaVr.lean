/- RecvqApart: the walk. -/
import Derived.Test.YtiglaalppaljbaaVq
import Derived.Test.YtiglaalppaljbaaVo
import Derived.Test.YtiglaalppaljbaaFlat
namespace Go.Proofs.Ytiglaalppaljbaa
open Go.RowKit Go.Maps Go.Lib
set_option maxRecDepth 100000
set_option linter.unusedVariables false
set_option linter.unusedSimpArgs false


structure HV (w : World) (base : Nat) (v : Value) (q : Nat) (Q : Rq) : Prop where
  x : ∃ A, QX w A q Q ∧ ∀ k, A k → base ≤ k ∧ v.ownBlock ≠ some k
  f : Q.Fine
theorem HV.later {w w' : World} {base q : Nat} {v : Value} {Q : Rq} (h : HV w base v q Q) (hb : Below w.heap.size w w') : HV w' base v q Q := by
  obtain ⟨⟨A, hX, hA⟩, hf⟩ := h
  exact ⟨⟨A, hX.later hb, hA⟩, hf⟩
theorem HV.hq {w : World} {base q : Nat} {v : Value} {Q : Rq} (h : HV w base v q Q) : HQ w base q Q := by
  obtain ⟨⟨A, hX, hA⟩, hf⟩ := h
  exact ⟨⟨A, hX, fun k hk => (hA k hk).1⟩, hf⟩
theorem hq_apart {w : World} {base q : Nat} {Q : Rq} (h : HQ w base q Q) (most : Int) :
    Calls Try.prog 14 #[PQ q, .int .i64 most] w fun e w' => ∃ v, e = .returned v ∧ RO w' w.heap.size v (apartL Q most) ∧ HV w' base v q Q ∧ Below w.heap.size w w' := by
  obtain ⟨⟨A, hX, hA⟩, hf⟩ := h
  refine (apart_any hX hf most).mono ?_
  rintro e w' ⟨v, rfl, hR, hb⟩
  exact ⟨v, rfl, hR, ⟨⟨A, hX.later hb, fun k hk => ⟨hA k hk, fun e => by have h1 := row_ge hR k e; have h2 := hX.lw k hk; omega⟩⟩, hf⟩, hb⟩
theorem RO.lt {w : World} {base : Nat} {v : Value} {rs : List Rg} (h : RO w base v rs) {k : Nat} (hk : v.ownBlock = some k) : k < w.heap.size := by
  rcases h.2 with ⟨rfl, -⟩ | ⟨g, cap, cur, rfl, hg, hb, -⟩
  · cases hk
  · cases hk; exact (Array.getElem?_eq_some_iff.1 hb).1
theorem ap_put_x {w : World} {base q : Nat} {D : Nat → Bool} (h : HQ w base q (aQ D)) (hD : DI D) (hbase : base ≤ w.heap.size) {d n : Nat} (hd1 : 1 ≤ d) (hd : d ≤ 100) (hn : n ≤ 100) (s : ByteArray) (hs : s.data.toList = List.replicate n 120) :
    Calls Try.prog 13 #[PQ q, .int .i64 ((4294967276 + (d : Int)) % 4294967296), .string s] w fun e w' => e = .returned (.tuple #[.int .i64 0, .int .i64 0]) ∧ HQ w' base q (aQ (dNew D d n)) ∧ Below base w w' := by
  have hsz : s.size = n := by have := congrArg List.length hs; rwa [Array.length_toList, List.length_replicate] at this
  refine (hq_put h hbase _ s (by omega) (by omega) (by omega)).mono ?_
  rintro e w' ⟨L, rfl, hL, hQ, hb⟩
  rw [hs, ap_x hD hd1 hd hn] at hL hQ
  obtain rfl : L = [] := hL.one (run_zero (dNew_di hD hd1))
  exact ⟨rfl, hQ, hb⟩
theorem av_put {w : World} {base q b : Nat} {v : Value} {rs : List Rg} {D : Nat → Bool} (h : HV w base v q (aQ D)) (hR : RO w b v rs) (hD : DI D) (hbase : base ≤ w.heap.size) {d n : Nat} (s : ByteArray) (hd1 : 1 ≤ d) (hd : d ≤ 100) (hs : s.size ≤ n) (hn : n ≤ 100) (hin : ∀ x, d ≤ x → x < d + n → D x = true) :
    Calls Try.prog 13 #[PQ q, .int .i64 ((4294967276 + (d : Int)) % 4294967296), .string s] w fun e w' => e = .returned (.tuple #[.int .i64 0, .int .i64 0]) ∧ HV w' base v q (aQ D) ∧ RO w' b v rs ∧ Below base w w' := by
  have hsz : s.data.toList.length = s.size := Array.length_toList
  obtain ⟨⟨A, hX, hA⟩, hf⟩ := h
  refine (put_ok hX hf _ s (by omega) (by omega) (by omega)).mono ?_
  rintro e w' ⟨L, A', rfl, hL, hX', hf', ht, hg⟩
  rw [ap_again hD hd1 hd (by omega) hn hin] at hL hX' hf'
  obtain rfl : L = [] := hL.one (run_zero hD)
  refine ⟨rfl, ⟨⟨A', hX', fun k hk => ?_⟩, hf'⟩, row_turn hR ht (fun k hk e => (hA k e).2 hk), below_of_turn ht hbase (fun k hk => (hA k hk).1)⟩
  rcases hg k hk with h1 | h1
  · exact hA k h1
  · exact ⟨by omega, fun e => by have := hR.lt e; omega⟩
theorem xs_slice (m : Nat) (hm : m ≤ 40) : ∃ xt : ByteArray, (∀ W, (Instr.slice 9 (.string ⟨#[120, 120, 120, 120, 120, 120, 120, 120, 120, 120, 120, 120, 120, 120, 120, 120, 120, 120, 120, 120, 120, 120, 120, 120, 120, 120, 120, 120, 120, 120, 120, 120, 120, 120, 120, 120, 120, 120, 120, 120]⟩) none (some (.int .i64 (m : Int))) none).run Try.prog W = .ok (.string xt) W) ∧ xt.data.toList = List.replicate m 120 := by
  refine ⟨(⟨#[120, 120, 120, 120, 120, 120, 120, 120, 120, 120, 120, 120, 120, 120, 120, 120, 120, 120, 120, 120, 120, 120, 120, 120, 120, 120, 120, 120, 120, 120, 120, 120, 120, 120, 120, 120, 120, 120, 120, 120]⟩ : ByteArray).extract 0 m, fun W => ?_, ?_⟩
  · simp [Instr.slice, Instr.sliceBounds, Instr.sliceBound, asIntOf, run_underlying Try.underlying9, Result.andThen]
    have h1 : (m : Int) ≤ ((⟨#[120, 120, 120, 120, 120, 120, 120, 120, 120, 120, 120, 120, 120, 120, 120, 120, 120, 120, 120, 120, 120, 120, 120, 120, 120, 120, 120, 120, 120, 120, 120, 120, 120, 120, 120, 120, 120, 120, 120, 120]⟩ : ByteArray).size : Int) := by show (m : Int) ≤ 40; omega
    simp [ByteArray.size] at h1 ⊢
    simp [show m ≤ 40 from hm]
  · rw [strB_extract]
    show (((⟨#[120, 120, 120, 120, 120, 120, 120, 120, 120, 120, 120, 120, 120, 120, 120, 120, 120, 120, 120, 120, 120, 120, 120, 120, 120, 120, 120, 120, 120, 120, 120, 120, 120, 120, 120, 120, 120, 120, 120, 120]⟩ : ByteArray).data.toList.drop 0).take (m - 0)) = _
    have : (⟨#[120, 120, 120, 120, 120, 120, 120, 120, 120, 120, 120, 120, 120, 120, 120, 120, 120, 120, 120, 120, 120, 120, 120, 120, 120, 120, 120, 120, 120, 120, 120, 120, 120, 120, 120, 120, 120, 120, 120, 120]⟩ : ByteArray).data.toList = List.replicate 40 120 := by decide +kernel
    rw [this, List.drop_zero, Nat.sub_zero, List.take_replicate, show min m 40 = m by omega]
def yA (D : Nat → Bool) : Nat → Option UInt8 := fun x => if x < 80 then some (if D x = true then 120 else 121) else none
def yQ (D : Nat → Bool) : Rq := goQ (aQ D) (yA D) (yL D)
theorem av_y {w : World} {base q b : Nat} {v : Value} {rs : List Rg} {D : Nat → Bool} (h : HV w base v q (aQ D)) (hR : RO w b v rs) (hD : DI D) (hbase : base ≤ w.heap.size) (s : ByteArray) (hs : s.data.toList = List.replicate 90 121) :
    Calls Try.prog 13 #[PQ q, .int .i64 4294967276, .string s] w fun e w' => e = .returned (.tuple #[.int .i64 80, .int .i64 0]) ∧ HV w' base v q (yQ D) ∧ RO w' b v rs ∧ Below base w w' := by
  have hsz : s.size = 90 := by have := congrArg List.length hs; rwa [Array.length_toList, List.length_replicate] at this
  obtain ⟨⟨A, hX, hA⟩, hf⟩ := h
  refine (put_ok hX hf _ s (by omega) (by omega) (by omega)).mono ?_
  rintro e w' ⟨L, A', rfl, hL, hX', hf', ht, hg⟩
  rw [hs, ap_y hD] at hL hX' hf'
  obtain rfl : L = yL D := hL.one (run_y D)
  refine ⟨by rw [yL_len]; rfl, ⟨⟨A', hX', fun k hk => ?_⟩, hf'⟩, row_turn hR ht (fun k hk e => (hA k e).2 hk), below_of_turn ht hbase (fun k hk => (hA k hk).1)⟩
  rcases hg k hk with h1 | h1
  · exact hA k h1
  · exact ⟨by omega, fun e => by have := hR.lt e; omega⟩
def zQ (D : Nat → Bool) : Rq := readQ (yQ D) 80
theorem av_read {w : World} {base q b : Nat} {v : Value} {rs : List Rg} {D : Nat → Bool} (h : HV w base v q (yQ D)) (hR : RO w b v rs) (hbase : base ≤ w.heap.size) :
    Calls Try.prog 24 #[PQ q, .int .i64 80] w fun e w' => e = .returned (.string (strB (yL D))) ∧ HV w' base v q (zQ D) ∧ RO w' b v rs ∧ Below base w w' := by
  obtain ⟨⟨A, hX, hA⟩, hf⟩ := h
  have hbs : (yQ D).bs = yL D := rfl
  have hrn : readN (yQ D) 80 = 80 := by unfold readN; rw [hbs, yL_len]; decide
  refine (read_any hX hf 80).mono ?_
  rintro e w' ⟨rfl, hX', ht⟩
  have hf' := readQ_fine hf 80
  rw [hrn] at hX' ⊢
  refine ⟨?_, ⟨⟨A, hX', hA⟩, hf'⟩, row_turn hR ht (fun k hk e => (hA k e).2 hk), below_of_turn ht hbase (fun k hk => (hA k hk).1)⟩
  rw [hbs, List.take_of_length_le (by rw [yL_len]; exact Nat.le_refl _)]
theorem z_apart (D : Nat → Bool) (most : Int) : apartL (zQ D) most = [] := by
  have h1 : offs (zQ D) = [] := by
    unfold offs
    rw [List.filter_eq_nil_iff]
    intro x _
    show ¬ (yA D (x + (yL D).length)).isSome = true
    rw [yL_len]
    unfold yA
    rw [if_neg (by omega)]
    simp
  unfold apartL
  rw [h1]
  simp [strL]
def lastS (S : List St) : Nat → Nat
  | 0 => 0
  | i + 1 => ((S[i]?).map (·.2)).getD 0
def sumS (S : List St) (i : Nat) : Nat := ((S.take i).map fun e => e.2 - e.1).sum
theorem sumS_succ {S : List St} {i : Nat} {e : St} (h : S[i]? = some e) : sumS S (i + 1) = sumS S i + (e.2 - e.1) := by
  unfold sumS
  rw [List.take_add_one, h]
  simp
theorem last_lt {S : List St} (hr : S.Pairwise (fun x y => x.2 < y.1)) (hz : ∀ e ∈ S, 0 < e.1) {i : Nat} {e : St} (h : S[i]? = some e) : lastS S i < e.1 := by
  cases i with
  | zero => exact hz e (List.mem_of_getElem? h)
  | succ i =>
    obtain ⟨hi, he⟩ := List.getElem?_eq_some_iff.1 h
    show ((S[i]?).map (·.2)).getD 0 < e.1
    rw [List.getElem?_eq_getElem (by omega)]
    have := List.pairwise_iff_getElem.1 hr i (i + 1) (by omega) hi (by omega)
    rw [he] at this
    exact this
structure SF (D : Nat → Bool) (S : List St) : Prop where
  eq : apartL (aQ D) 99 = S.map (numR 4294967276)
  len : S.length ≤ 80
  rise : S.Pairwise (fun x y => x.2 < y.1)
  ok : ∀ e ∈ S, 0 < e.1 ∧ e.1 < e.2 ∧ e.2 ≤ 80 ∧ ∀ x, e.1 ≤ x → x < e.2 → D x = true
  sum : sumS S S.length = cntD D 80
theorem ap_facts {D : Nat → Bool} (hD : DI D) : SF D (strL (offs (aQ D))) := by
  have h := sok_str (offs_rise (aQ D))
  have hin : ∀ x, x ∈ offs (aQ D) → x < 80 ∧ D x = true := fun x hx => by
    rw [offs_aQ] at hx
    have := List.mem_filter.1 hx
    exact ⟨List.mem_range.1 this.1, this.2⟩
  have hl : (offs (aQ D)).length ≤ 80 := by
    rw [offs_aQ]
    refine Nat.le_trans (List.length_filter_le _ _) ?_
    rw [List.length_range]; exact Nat.le_refl _
  have hsl : (strL (offs (aQ D))).length ≤ 80 := by
    have := fold_len (offs (aQ D)) []
    unfold strL
    simp at this
    omega
  have hbd : ∀ e ∈ strL (offs (aQ D)), e.1 < e.2 ∧ e.2 ≤ 80 := fold_bd _ (by simp) (fun p hp => (hin p hp).1)
  refine ⟨?_, hsl, h.rise, fun e he => ?_, ?_⟩
  · unfold apartL
    rw [List.take_of_length_le (by show _ ≤ 99; omega)]
    rfl
  · have h1 := hbd e he
    have hx : ∀ x, e.1 ≤ x → x < e.2 → D x = true := fun x h2 h3 => (hin x ((h.mem x).1 ⟨e, he, h2, h3⟩)).2
    refine ⟨?_, h1.1, h1.2, hx⟩
    rcases Nat.eq_zero_or_pos e.1 with e0 | e0
    · have := hx 0 (by omega) (by omega)
      rw [hD.z] at this; cases this
    · exact e0
  · unfold sumS cntD
    rw [List.take_length, h.sum, offs_aQ]
set_option maxHeartbeats 8000000 in
theorem apart_law (a : Option Addr) (n cap : Nat) (s : ByteArray) (w : World) (hs : s.size ≤ 9223372036854775807) (hr : Flat.Rows w a n 3 [.i, .i, .i]) (hz : n < 1000000000000000) :
    Calls Try.prog 5 #[.slice a n cap, .string s] w fun e w' => e = .returned (.bool true) ∧ Below w.heap.size w w' := by
  have HA : Hid (Flat.Rows w a n 3 [.i, .i, .i]) := hr
  clear hr
  have hnew := hq_new 4294967276 80 w (by omega) (by omega) (by omega) (by omega)
  rw [show ((80 : Nat) : Int) = 80 from rfl] at hnew
  go_enter Try.func5, Try.ntmps5
  go_wp2_with fail
  refine hnew.mono ?_
  rintro e w1 ⟨rfl, hX1, hb1⟩
  clear hnew
  generalize hq : w.heap.size + 1 = q at *
  clear hq
  go_wp2_with fail
  refine (works_any w1).mono ?_
  rintro e w2 ⟨rfl, hb2⟩
  have HX2 : Hid (HQ w2 w.heap.size q (aQ fun _ => false) ∧ DI fun _ => false) := ⟨hX1.later hb2, rfl, fun x h => by cases h⟩
  have hbw2 := bt hb1 hb2
  clear hX1 hb1 hb2
  go_wp2_with fail
  try go_frame
  go_loopw [7] (fun s7 wr => ∃ (k : Nat) (D : Nat → Bool), s7 = .int .i64 (k : Int) ∧ k ≤ n ∧ Hid (HQ wr w.heap.size q (aQ D) ∧ DI D) ∧ Below w.heap.size w wr) (fun s7 _ => n - (RowKit.intOf s7).toNat)
  case atStart => exact ⟨0, _, rfl, Nat.zero_le _, HX2, hbw2⟩
  case round =>
    clear HX2 hbw2
    obtain ⟨k, D, rfl, hkn, HX, hb⟩ := hrel
    go_upto_region 5 with fail
    go_cut [48] from 41 to 47 (fun s48 W => s48 = .bool (decide (k < n ∧ k < 30)) ∧ W = wr)
    case first =>
      by_cases z0 : k < n
      · have z2 : (k : Int) < (n : Int) := by omega
        by_cases z1 : k < 30
        · have z3 : (k : Int) < 30 := by omega
          go_wp2
          go_meet
          case rel => exact ⟨by rw [decide_eq_true ⟨z0, z1⟩], rfl⟩
        · have z3 : ¬ (k : Int) < 30 := by omega
          go_wp2
          go_meet
          case rel => exact ⟨by rw [decide_eq_false (fun h => z1 h.2)], rfl⟩
      · have z2 : ¬ (k : Int) < (n : Int) := by omega
        go_wp2
        go_meet
        case rel => exact ⟨by rw [decide_eq_false (fun h => z0 h.1)], rfl⟩
    case rest =>
    obtain ⟨rfl, hw4⟩ := hcut
    subst hw4
    obtain ⟨wr, hw4⟩ : ∃ x, x = wc := ⟨wc, rfl⟩
    subst hw4
    have hR : w.heap.size ≤ wr.heap.size := hb.size
    by_cases hlt : k < n ∧ k < 30
    · -- @1
      rw [decide_eq_true hlt]
      obtain ⟨ab, off, rfl, hrow⟩ : ∃ b off, a = some ⟨b, off, none⟩ ∧ ∀ k, k < n → ∃ cs : List Value, Flat.Ok [.i, .i, .i] cs ∧ ∀ j v, cs[j]? = some v → w.cell? ⟨b, off + k * 3 + j, none⟩ = some v := by
        rcases HA.out with h | h
        · omega
        · exact h
      obtain ⟨cs, ⟨hcl, hck⟩, hcc⟩ := hrow k hlt.1
      clear hrow
      match cs, hcl with
      | [v0, v1, v2], _ =>
      obtain ⟨xa, rfl, wxa⟩ := hck 0 _ _ rfl rfl
      obtain ⟨xl, rfl, wxl⟩ := hck 1 _ _ rfl rfl
      have y0 : wr.cell? ⟨ab, off + k * 3, none⟩ = some (.int .i64 xa) := later hb (hcc 0 _ rfl)
      have y1 : wr.cell? ⟨ab, off + k * 3 + 1, none⟩ = some (.int .i64 xl) := later hb (hcc 1 _ rfl)
      clear hcc hck
      have hk1 : (k : Int) < (n : Int) := by omega
      have hk3 : (0 : Int) ≤ (k : Int) := by omega
      go_wp2_with fail
      refine (among_any xa 90 wr (by decide) (by decide)).mono ?_
      rintro e w5 ⟨rfl, hw5⟩
      subst hw5
      obtain ⟨ma, hma⟩ : ∃ m : Nat, xa % 90 = (m : Int) := ⟨(xa % 90).toNat, by omega⟩
      have hma1 : ma < 90 := by omega
      rw [hma]
      clear hma
      have hadd := adds (a := 4294967276) (n := 1 + (ma : Int)) (by omega) (by omega) w5
      obtain ⟨d, hd⟩ : ∃ d : Nat, d = 1 + ma := ⟨_, rfl⟩
      rw [show (4294967276 + (1 + (ma : Int))) % 4294967296 = (4294967276 + (d : Int)) % 4294967296 by omega] at hadd
      have hd1 : 1 ≤ d ∧ d ≤ 90 := by omega
      clear hd
      go_wp2_with fail
      refine hadd.mono ?_
      rintro e w6 ⟨rfl, hw6⟩
      subst hw6
      go_wp2_with fail
      refine (among_any xl 40 w6 (by decide) (by decide)).mono ?_
      rintro e w7 ⟨rfl, hw7⟩
      subst hw7
      obtain ⟨mm, hmm⟩ : ∃ m : Nat, xl % 40 = (m : Int) := ⟨(xl % 40).toNat, by omega⟩
      have hmm1 : mm < 40 := by omega
      rw [hmm]
      clear hmm
      obtain ⟨xt, hsl, hxt⟩ := xs_slice mm (by omega)
      have hput := ap_put_x HX.out.1 HX.out.2 hR hd1.1 (by omega : d ≤ 100) (by omega : mm ≤ 100) xt hxt
      obtain ⟨na, hna⟩ : ∃ x, x = (4294967276 + (d : Int)) % 4294967296 := ⟨_, rfl⟩
      rw [← hna] at hput ⊢
      clear hna hadd
      go_wp2_with fail
      refine hput.mono ?_
      rintro e w8 ⟨rfl, hQ8, hb8⟩
      have HX8 : Hid (HQ w8 w.heap.size q (aQ (dNew D d mm)) ∧ DI (dNew D d mm)) := ⟨hQ8, dNew_di HX.out.2 hd1.1⟩
      have hbw8 := hb.trans hb8
      clear hput hQ8 hb8 hsl hxt
      go_wp2
      go_roundw
      case rel => exact ⟨k + 1, _, by first | rfl | simp, by omega, HX8, hbw8⟩
      case measure => first | omega | (simp only [RowKit.intOf]; omega) | (simp [RowKit.intOf]; omega)
      -- @/1
    · rw [decide_eq_false hlt]
      clear hlt
      go_wp2_with fail
      refine (hq_apart HX.out.1 99).mono ?_
      rintro e w5 ⟨vl, rfl, hR5, hV5, hb5⟩
      have hSF := ap_facts HX.out.2
      have HD : Hid (DI D) := HX.out.2
      generalize strL (offs (aQ D)) = S at *
      rw [hSF.eq] at hR5
      have hbw5 := bt hb hb5
      have hwb : w.heap.size ≤ wr.heap.size := hR
      generalize hbb : wr.heap.size = bb at *
      clear HX hb hb5 hbb hR
      obtain ⟨al, cl, hvl, hal, hal0⟩ := hR5.shape
      rw [List.length_map] at hvl
      have HSF : Hid (SF D S) := hSF
      have hSl := hSF.len
      have hSI : ∀ i e, S[i]? = some e → 0 < e.1 ∧ e.1 < e.2 ∧ e.2 ≤ 80 ∧ (∀ x, e.1 ≤ x → x < e.2 → D x = true) ∧ lastS S i < e.1 := fun i e h => by
        have h1 := hSF.ok e (List.mem_of_getElem? h)
        exact ⟨h1.1, h1.2.1, h1.2.2.1, h1.2.2.2, last_lt hSF.rise (fun x hx => (hSF.ok x hx).1) h⟩
      have HSI : Hid (∀ i e, S[i]? = some e → 0 < e.1 ∧ e.1 < e.2 ∧ e.2 ≤ 80 ∧ (∀ x, e.1 ≤ x → x < e.2 → D x = true) ∧ lastS S i < e.1) := hSI
      have hcells : ∀ W i e, RO W bb (.slice al S.length cl) (S.map (numR 4294967276)) → S[i]? = some e → ∃ g, al = some ⟨g, 0, none⟩ ∧ W.cell? ⟨g, i * 2, none⟩ = some (.int .i64 ((4294967276 + (e.1 : Int)) % 4294967296)) ∧ W.cell? ⟨g, i * 2 + 1, none⟩ = some (.int .i64 ((4294967276 + (e.2 : Int)) % 4294967296)) := by
        intro W i e hR hi
        cases hall : al with
        | none =>
          have := hal0 hall
          simp at this
          rw [this] at hi
          simp at hi
        | some A0 =>
          obtain ⟨g, rfl, -⟩ := hal A0 hall
          rw [hall] at hR
          have := hR.cell (j := i) (e := numR 4294967276 e) (by rw [List.getElem?_map, hi]; rfl)
          exact ⟨g, rfl, this⟩
      have HC : Hid (∀ W i e, RO W bb (.slice al S.length cl) (S.map (numR 4294967276)) → S[i]? = some e → ∃ g, al = some ⟨g, 0, none⟩ ∧ W.cell? ⟨g, i * 2, none⟩ = some (.int .i64 ((4294967276 + (e.1 : Int)) % 4294967296)) ∧ W.cell? ⟨g, i * 2 + 1, none⟩ = some (.int .i64 ((4294967276 + (e.2 : Int)) % 4294967296))) := hcells
      subst hvl
      clear hSF hSI hcells hal hal0
      have HV5 : Hid (HV w5 w.heap.size (.slice al S.length cl) q (aQ D) ∧ RO w5 bb (.slice al S.length cl) (S.map (numR 4294967276))) := ⟨hV5, hR5⟩
      clear hV5 hR5
      obtain ⟨sl, hsl⟩ : ∃ x, x = S.length := ⟨_, rfl⟩
      rw [← hsl] at HV5 HC hSl ⊢
      have HSL : Hid (sl = S.length) := hsl
      clear hsl
      go_wp2_with fail
      try go_frame
      go_loopw [11, 76] (fun s11 s76 W => ∃ (i la : Nat), i ≤ sl ∧ s76 = .int .i64 (i : Int) ∧ s11 = .int .i64 (la : Int) ∧ la = lastS S i ∧ Hid (HV W w.heap.size (.slice al sl cl) q (aQ D) ∧ RO W bb (.slice al sl cl) (S.map (numR 4294967276))) ∧ Below w.heap.size w W) (fun _ s76 _ => sl - (RowKit.intOf s76).toNat)
      case atStart => exact ⟨0, 0, Nat.zero_le _, rfl, rfl, rfl, HV5, hbw5⟩
      case round =>
        clear HV5 hbw5
        obtain ⟨i, la, hi, rfl, rfl, hla, HVr, hb⟩ := hrel
        have hRr : w.heap.size ≤ wr.heap.size := hb.size
        by_cases hil : i < sl
        · -- @2
          obtain ⟨e, he⟩ : ∃ e, S[i]? = some e := ⟨_, List.getElem?_eq_getElem (by have := HSL.out; omega)⟩
          obtain ⟨p1, p2, p3, p4, p5⟩ := HSI.out i e he
          rw [← hla] at p5
          have HLA : Hid (lastS S (i + 1) = e.2) := by show ((S[i]?).map (·.2)).getD 0 = _; rw [he]; rfl
          obtain ⟨g, rfl, cf, ct⟩ := HC.out wr i e HVr.out.2 he
          clear he hla
          obtain ⟨fr, hfr⟩ : ∃ x, x = (4294967276 + (e.1 : Int)) % 4294967296 := ⟨_, rfl⟩
          obtain ⟨tt, htt⟩ : ∃ x, x = (4294967276 + (e.2 : Int)) % 4294967296 := ⟨_, rfl⟩
          rw [← hfr] at cf
          rw [← htt] at ct
          have HF : Hid (fr = (4294967276 + (e.1 : Int)) % 4294967296) := hfr
          have HT : Hid (tt = (4294967276 + (e.2 : Int)) % 4294967296) := htt
          have hfr1 : 0 ≤ fr ∧ fr ≤ 4294967295 := by omega
          have htt1 : 0 ≤ tt ∧ tt ≤ 4294967295 := by omega
          have hda := fun W => dists (a := 4294967276) (b := fr) (by omega) hfr1 W
          have hdb := fun W => dists (a := 4294967276) (b := tt) (by omega) htt1 W
          rw [show (fr - 4294967276) % 4294967296 = (e.1 : Int) by omega] at hda
          rw [show (tt - 4294967276) % 4294967296 = (e.2 : Int) by omega] at hdb
          clear hfr htt
          have hbB := bel1 wr (.cells #[.int .i64 fr, .int .i64 tt] 56)
          have hBx := At.box wr #[.int .i64 fr, .int .i64 tt] 56
          go_upto_region 14 with fail
          have HV1 : Hid (HV (wr.alloc (.cells #[.int .i64 fr, .int .i64 tt] 56)) w.heap.size (.slice (some ⟨g, 0, none⟩) sl cl) q (aQ D) ∧ RO (wr.alloc (.cells #[.int .i64 fr, .int .i64 tt] 56)) bb (.slice (some ⟨g, 0, none⟩) sl cl) (S.map (numR 4294967276))) := ⟨HVr.out.1.later hbB, HVr.out.2.later hbB⟩
          have hb1 := bt hb hbB
          have hR1 := Nat.le_trans hRr hbB.size
          clear HVr hb hRr hbB cf ct
          generalize wr.heap.size = rb at *
          generalize wr.alloc (.cells #[.int .i64 fr, .int .i64 tt] 56) = w6 at *
          have hnext : ∀ W, Below w6.heap.size w6 W → Calls Try.prog 15 #[PQ q] W fun e w' => e = .returned (.int .i64 4294967276) ∧ w' = W := fun W hW => hq_next (HV1.out.1.hq.later hW)
          have b0 : ∀ W, Below w6.heap.size w6 W → W.cell? ⟨rb, 0, none⟩ = some (.int .i64 fr) := fun W hW => ((hBx.later hW).2 0 _ rfl).1
          have b1 : ∀ W, Below w6.heap.size w6 W → W.cell? ⟨rb, 1, none⟩ = some (.int .i64 tt) := fun W hW => ((hBx.later hW).2 1 _ rfl).1
          refine wp_region_held_drew (S := (fun W => Below w6.heap.size w6 W)) (by kernel_rfl) ?_ (fun hHeld => ?_)
          · first | exact (Below.refl _ _).drew | assumption
          refine wpAnyH_take (i := 0) (oi := ({ dst := some 81, op := Go.Op.move (Go.Operand.tmp 5), type := 24, pos := "theorems.go:93", after := #[], guard := none } : Go.Oper)) (v := .pointer (some ⟨q, 0, none⟩)) rfl (by kernel_rfl) (by kernel_rfl) (by kernel_rfl) (fun _ _ _ h => h) (Or.inl ⟨by rfl, ?_⟩) (by assumption) ?_
          · intro wx hSw
            try dsimp only at hSw
            have u1 := b0 wx hSw
            go_simp
            try with_reducible rfl
          try simp only [Act.put, List.setIfInBounds_toArray, List.set_cons_zero, List.set_cons_succ]
          refine wpAnyH_take (i := 2) (oi := ({ dst := some 83, op := Go.Op.fieldAddr 56 (Go.Operand.tmp 13) 0, type := 0, pos := "theorems.go:93", after := #[], guard := none } : Go.Oper)) (v := .pointer (some ⟨rb, 0, none⟩)) rfl (by kernel_rfl) (by kernel_rfl) (by kernel_rfl) (fun _ _ _ h => h) (Or.inl ⟨by rfl, ?_⟩) (by assumption) ?_
          · intro wx hSw
            try dsimp only at hSw
            have u1 := b0 wx hSw
            go_simp
            try with_reducible rfl
          try simp only [Act.put, List.setIfInBounds_toArray, List.set_cons_zero, List.set_cons_succ]
          refine wpAnyH_take (i := 3) (oi := ({ dst := some 84, op := Go.Op.load 3 (Go.Operand.tmp 83), type := 3, pos := "theorems.go:93", after := #[{ on := 2, ground := Go.Ground.data }], guard := none } : Go.Oper)) (v := .int .i64 fr) rfl (by kernel_rfl) (by kernel_rfl) (by kernel_rfl) (fun _ _ _ h => h) (Or.inl ⟨by rfl, ?_⟩) (by assumption) ?_
          · intro wx hSw
            try dsimp only at hSw
            have u1 := b0 wx hSw
            go_simp
            try with_reducible rfl
          try simp only [Act.put, List.setIfInBounds_toArray, List.set_cons_zero, List.set_cons_succ]
          refine wpAnyH_ready (rs := [1]) (by kernel_rfl) (by simp) ?_
          refine AllReadyH.cons (o := ({ dst := some 82, op := Go.Op.call { callee := Go.Callee.value (Go.Operand.func 15), args := #[Go.Operand.tmp 81], argTypes := #[24] }, type := 3, pos := "theorems.go:93", after := #[{ on := 0, ground := Go.Ground.data }], guard := none } : Go.Oper)) rfl (fun K hK => ?_) AllReadyH.nil
          go_simp
          refine (hnext _ hHeld).mono ?_
          rintro e9 wk ⟨rfl, rfl⟩
          refine hK.out _ _ hHeld (fun hHeld => ?_)
          clear hK K
          try simp only [Act.put, List.setIfInBounds_toArray, List.set_cons_zero, List.set_cons_succ]
          refine wpAnyH_ready (rs := [4]) (by kernel_rfl) (by simp) ?_
          refine AllReadyH.cons (o := ({ dst := some 85, op := Go.Op.call { callee := Go.Callee.value (Go.Operand.func 22), args := #[Go.Operand.tmp 82, Go.Operand.tmp 84], argTypes := #[3, 3] }, type := 36, pos := "theorems.go:93", after := #[{ on := 1, ground := Go.Ground.data }, { on := 3, ground := Go.Ground.data }, { on := 1, ground := Go.Ground.chain }], guard := none } : Go.Oper)) rfl (fun K hK => ?_) AllReadyH.nil
          go_simp
          refine (hda _).mono ?_
          rintro e9 wk ⟨rfl, rfl⟩
          refine hK.out _ _ hHeld (fun hHeld => ?_)
          clear hK K
          try simp only [Act.put, List.setIfInBounds_toArray, List.set_cons_zero, List.set_cons_succ]
          refine wpAnyH_take (i := 5) (oi := ({ dst := some 80, op := Go.Op.move (Go.Operand.tmp 85), type := 36, pos := "theorems.go:93", after := #[{ on := 4, ground := Go.Ground.data }], guard := none } : Go.Oper)) (v := .tuple #[.int .i64 (e.1 : Int), .int .i64 0]) rfl (by kernel_rfl) (by kernel_rfl) (by kernel_rfl) (fun _ _ _ h => h) (Or.inl ⟨by rfl, ?_⟩) (by assumption) ?_
          · intro wx hSw
            try dsimp only at hSw
            have u1 := b0 wx hSw
            go_simp
            try with_reducible rfl
          try simp only [Act.put, List.setIfInBounds_toArray, List.set_cons_zero, List.set_cons_succ]
          refine wpAnyH_take (i := 6) (oi := ({ dst := some 86, op := Go.Op.extract (Go.Operand.tmp 80) 0, type := 3, pos := "theorems.go:93", after := #[{ on := 5, ground := Go.Ground.data }], guard := none } : Go.Oper)) (v := .int .i64 (e.1 : Int)) rfl (by kernel_rfl) (by kernel_rfl) (by kernel_rfl) (fun _ _ _ h => h) (Or.inl ⟨by rfl, ?_⟩) (by assumption) ?_
          · intro wx hSw
            try dsimp only at hSw
            have u1 := b0 wx hSw
            go_simp
            try with_reducible rfl
          try simp only [Act.put, List.setIfInBounds_toArray, List.set_cons_zero, List.set_cons_succ]
          refine wpAnyH_take (i := 7) (oi := ({ dst := some 87, op := Go.Op.extract (Go.Operand.tmp 80) 1, type := 25, pos := "theorems.go:93", after := #[{ on := 5, ground := Go.Ground.data }, { on := 8, ground := Go.Ground.gcOnly Go.Departure.lateStores }], guard := none } : Go.Oper)) (v := .int .i64 0) rfl (by kernel_rfl) (by kernel_rfl) (by kernel_rfl) (fun _ _ _ h => h) (Or.inl ⟨by rfl, ?_⟩) (by assumption) ?_
          · intro wx hSw
            try dsimp only at hSw
            have u1 := b0 wx hSw
            go_simp
            try with_reducible rfl
          try simp only [Act.put, List.setIfInBounds_toArray, List.set_cons_zero, List.set_cons_succ]
          refine wpAnyH_take (i := 8) (oi := ({ dst := some 14, op := Go.Op.assign (Go.Operand.tmp 86), type := 3, pos := "theorems.go:93", after := #[{ on := 6, ground := Go.Ground.data }, { on := 4, ground := Go.Ground.chain }, { on := 0, ground := Go.Ground.phase }, { on := 1, ground := Go.Ground.phase }, { on := 2, ground := Go.Ground.phase }, { on := 3, ground := Go.Ground.phase }, { on := 4, ground := Go.Ground.phase }, { on := 5, ground := Go.Ground.phase }, { on := 6, ground := Go.Ground.phase }, { on := 7, ground := Go.Ground.textOnly Go.Departure.lateStores }], guard := none } : Go.Oper)) (v := .int .i64 (e.1 : Int)) rfl (by kernel_rfl) (by kernel_rfl) (by kernel_rfl) (fun _ _ _ h => h) (Or.inl ⟨by rfl, ?_⟩) (by assumption) ?_
          · intro wx hSw
            try dsimp only at hSw
            have u1 := b0 wx hSw
            go_simp
            try with_reducible rfl
          try simp only [Act.put, List.setIfInBounds_toArray, List.set_cons_zero, List.set_cons_succ]
          refine wpAnyH_take (i := 9) (oi := ({ dst := some 15, op := Go.Op.assign (Go.Operand.tmp 87), type := 25, pos := "theorems.go:93", after := #[{ on := 7, ground := Go.Ground.data }, { on := 8, ground := Go.Ground.chain }, { on := 0, ground := Go.Ground.phase }, { on := 1, ground := Go.Ground.phase }, { on := 2, ground := Go.Ground.phase }, { on := 3, ground := Go.Ground.phase }, { on := 4, ground := Go.Ground.phase }, { on := 5, ground := Go.Ground.phase }, { on := 6, ground := Go.Ground.phase }, { on := 7, ground := Go.Ground.phase }, { on := 8, ground := Go.Ground.phase }], guard := none } : Go.Oper)) (v := .int .i64 0) rfl (by kernel_rfl) (by kernel_rfl) (by kernel_rfl) (fun _ _ _ h => h) (Or.inl ⟨by rfl, ?_⟩) (by assumption) ?_
          · intro wx hSw
            try dsimp only at hSw
            have u1 := b0 wx hSw
            go_simp
            try with_reducible rfl
          try simp only [Act.put, List.setIfInBounds_toArray, List.set_cons_zero, List.set_cons_succ]
          refine wpAnyH_done (by kernel_rfl) ?_ _
          go_upto_region 15 with fail
          generalize w6.drew = w7 at *
          have HB7 : Hid (Below w6.heap.size w6 w7) := hHeld
          have hnext7 : ∀ W, Below w7.heap.size w7 W → Calls Try.prog 15 #[PQ q] W fun e w' => e = .returned (.int .i64 4294967276) ∧ w' = W := fun W hW => hnext W (bt HB7.out hW)
          have b17 : ∀ W, Below w7.heap.size w7 W → W.cell? ⟨rb, 1, none⟩ = some (.int .i64 tt) := fun W hW => b1 W (bt HB7.out hW)
          refine wp_region_held_drew (S := (fun W => Below w7.heap.size w7 W)) (by kernel_rfl) ?_ (fun hHeld => ?_)
          · first | exact (Below.refl _ _).drew | assumption
          refine wpAnyH_take (i := 0) (oi := ({ dst := some 89, op := Go.Op.move (Go.Operand.tmp 5), type := 24, pos := "theorems.go:94", after := #[], guard := none } : Go.Oper)) (v := .pointer (some ⟨q, 0, none⟩)) rfl (by kernel_rfl) (by kernel_rfl) (by kernel_rfl) (fun _ _ _ h => h) (Or.inl ⟨by rfl, ?_⟩) (by assumption) ?_
          · intro wx hSw
            try dsimp only at hSw
            have u1 := b17 wx hSw
            go_simp
            try with_reducible rfl
          try simp only [Act.put, List.setIfInBounds_toArray, List.set_cons_zero, List.set_cons_succ]
          refine wpAnyH_take (i := 2) (oi := ({ dst := some 91, op := Go.Op.fieldAddr 56 (Go.Operand.tmp 13) 1, type := 0, pos := "theorems.go:94", after := #[], guard := none } : Go.Oper)) (v := .pointer (some ⟨rb, 1, none⟩)) rfl (by kernel_rfl) (by kernel_rfl) (by kernel_rfl) (fun _ _ _ h => h) (Or.inl ⟨by rfl, ?_⟩) (by assumption) ?_
          · intro wx hSw
            try dsimp only at hSw
            have u1 := b17 wx hSw
            go_simp
            try with_reducible rfl
          try simp only [Act.put, List.setIfInBounds_toArray, List.set_cons_zero, List.set_cons_succ]
          refine wpAnyH_take (i := 3) (oi := ({ dst := some 92, op := Go.Op.load 3 (Go.Operand.tmp 91), type := 3, pos := "theorems.go:94", after := #[{ on := 2, ground := Go.Ground.data }], guard := none } : Go.Oper)) (v := .int .i64 tt) rfl (by kernel_rfl) (by kernel_rfl) (by kernel_rfl) (fun _ _ _ h => h) (Or.inl ⟨by rfl, ?_⟩) (by assumption) ?_
          · intro wx hSw
            try dsimp only at hSw
            have u1 := b17 wx hSw
            go_simp
            try with_reducible rfl
          try simp only [Act.put, List.setIfInBounds_toArray, List.set_cons_zero, List.set_cons_succ]
          refine wpAnyH_ready (rs := [1]) (by kernel_rfl) (by simp) ?_
          refine AllReadyH.cons (o := ({ dst := some 90, op := Go.Op.call { callee := Go.Callee.value (Go.Operand.func 15), args := #[Go.Operand.tmp 89], argTypes := #[24] }, type := 3, pos := "theorems.go:94", after := #[{ on := 0, ground := Go.Ground.data }], guard := none } : Go.Oper)) rfl (fun K hK => ?_) AllReadyH.nil
          go_simp
          refine (hnext7 _ hHeld).mono ?_
          rintro e9 wk ⟨rfl, rfl⟩
          refine hK.out _ _ hHeld (fun hHeld => ?_)
          clear hK K
          try simp only [Act.put, List.setIfInBounds_toArray, List.set_cons_zero, List.set_cons_succ]
          refine wpAnyH_ready (rs := [4]) (by kernel_rfl) (by simp) ?_
          refine AllReadyH.cons (o := ({ dst := some 93, op := Go.Op.call { callee := Go.Callee.value (Go.Operand.func 22), args := #[Go.Operand.tmp 90, Go.Operand.tmp 92], argTypes := #[3, 3] }, type := 36, pos := "theorems.go:94", after := #[{ on := 1, ground := Go.Ground.data }, { on := 3, ground := Go.Ground.data }, { on := 1, ground := Go.Ground.chain }], guard := none } : Go.Oper)) rfl (fun K hK => ?_) AllReadyH.nil
          go_simp
          refine (hdb _).mono ?_
          rintro e9 wk ⟨rfl, rfl⟩
          refine hK.out _ _ hHeld (fun hHeld => ?_)
          clear hK K
          try simp only [Act.put, List.setIfInBounds_toArray, List.set_cons_zero, List.set_cons_succ]
          refine wpAnyH_take (i := 5) (oi := ({ dst := some 88, op := Go.Op.move (Go.Operand.tmp 93), type := 36, pos := "theorems.go:94", after := #[{ on := 4, ground := Go.Ground.data }], guard := none } : Go.Oper)) (v := .tuple #[.int .i64 (e.2 : Int), .int .i64 0]) rfl (by kernel_rfl) (by kernel_rfl) (by kernel_rfl) (fun _ _ _ h => h) (Or.inl ⟨by rfl, ?_⟩) (by assumption) ?_
          · intro wx hSw
            try dsimp only at hSw
            have u1 := b17 wx hSw
            go_simp
            try with_reducible rfl
          try simp only [Act.put, List.setIfInBounds_toArray, List.set_cons_zero, List.set_cons_succ]
          refine wpAnyH_take (i := 6) (oi := ({ dst := some 94, op := Go.Op.extract (Go.Operand.tmp 88) 0, type := 3, pos := "theorems.go:94", after := #[{ on := 5, ground := Go.Ground.data }], guard := none } : Go.Oper)) (v := .int .i64 (e.2 : Int)) rfl (by kernel_rfl) (by kernel_rfl) (by kernel_rfl) (fun _ _ _ h => h) (Or.inl ⟨by rfl, ?_⟩) (by assumption) ?_
          · intro wx hSw
            try dsimp only at hSw
            have u1 := b17 wx hSw
            go_simp
            try with_reducible rfl
          try simp only [Act.put, List.setIfInBounds_toArray, List.set_cons_zero, List.set_cons_succ]
          refine wpAnyH_take (i := 7) (oi := ({ dst := some 95, op := Go.Op.extract (Go.Operand.tmp 88) 1, type := 25, pos := "theorems.go:94", after := #[{ on := 5, ground := Go.Ground.data }, { on := 8, ground := Go.Ground.gcOnly Go.Departure.lateStores }], guard := none } : Go.Oper)) (v := .int .i64 0) rfl (by kernel_rfl) (by kernel_rfl) (by kernel_rfl) (fun _ _ _ h => h) (Or.inl ⟨by rfl, ?_⟩) (by assumption) ?_
          · intro wx hSw
            try dsimp only at hSw
            have u1 := b17 wx hSw
            go_simp
            try with_reducible rfl
          try simp only [Act.put, List.setIfInBounds_toArray, List.set_cons_zero, List.set_cons_succ]
          refine wpAnyH_take (i := 8) (oi := ({ dst := some 16, op := Go.Op.assign (Go.Operand.tmp 94), type := 3, pos := "theorems.go:94", after := #[{ on := 6, ground := Go.Ground.data }, { on := 4, ground := Go.Ground.chain }, { on := 0, ground := Go.Ground.phase }, { on := 1, ground := Go.Ground.phase }, { on := 2, ground := Go.Ground.phase }, { on := 3, ground := Go.Ground.phase }, { on := 4, ground := Go.Ground.phase }, { on := 5, ground := Go.Ground.phase }, { on := 6, ground := Go.Ground.phase }, { on := 7, ground := Go.Ground.textOnly Go.Departure.lateStores }], guard := none } : Go.Oper)) (v := .int .i64 (e.2 : Int)) rfl (by kernel_rfl) (by kernel_rfl) (by kernel_rfl) (fun _ _ _ h => h) (Or.inl ⟨by rfl, ?_⟩) (by assumption) ?_
          · intro wx hSw
            try dsimp only at hSw
            have u1 := b17 wx hSw
            go_simp
            try with_reducible rfl
          try simp only [Act.put, List.setIfInBounds_toArray, List.set_cons_zero, List.set_cons_succ]
          refine wpAnyH_take (i := 9) (oi := ({ dst := some 17, op := Go.Op.assign (Go.Operand.tmp 95), type := 25, pos := "theorems.go:94", after := #[{ on := 7, ground := Go.Ground.data }, { on := 8, ground := Go.Ground.chain }, { on := 0, ground := Go.Ground.phase }, { on := 1, ground := Go.Ground.phase }, { on := 2, ground := Go.Ground.phase }, { on := 3, ground := Go.Ground.phase }, { on := 4, ground := Go.Ground.phase }, { on := 5, ground := Go.Ground.phase }, { on := 6, ground := Go.Ground.phase }, { on := 7, ground := Go.Ground.phase }, { on := 8, ground := Go.Ground.phase }], guard := none } : Go.Oper)) (v := .int .i64 0) rfl (by kernel_rfl) (by kernel_rfl) (by kernel_rfl) (fun _ _ _ h => h) (Or.inl ⟨by rfl, ?_⟩) (by assumption) ?_
          · intro wx hSw
            try dsimp only at hSw
            have u1 := b17 wx hSw
            go_simp
            try with_reducible rfl
          try simp only [Act.put, List.setIfInBounds_toArray, List.set_cons_zero, List.set_cons_succ]
          refine wpAnyH_done (by kernel_rfl) ?_ _
          have hb8 := bt HB7.out hHeld
          generalize w7.drew = w8 at *
          have HV8 : Hid (HV w8 w.heap.size (.slice (some ⟨g, 0, none⟩) sl cl) q (aQ D) ∧ RO w8 bb (.slice (some ⟨g, 0, none⟩) sl cl) (S.map (numR 4294967276))) := ⟨HV1.out.1.later hb8, HV1.out.2.later hb8⟩
          have hbw8 := bt hb1 hb8
          have hR8 := Nat.le_trans hR1 hb8.size
          have hBx8 := hBx.later hb8
          have hwn := hq_window HV8.out.1.hq
          rw [show (((aQ D).room - (aQ D).bs.length : Nat) : Int) = 80 from rfl] at hwn
          clear HV1 hb1 hR1 hnext b0 b1 hnext7 b17 hda hdb HB7 hHeld hb8 hBx
          have g1 : ¬ (e.1 : Int) ≤ (la : Int) := by omega
          have g2 : ¬ (e.2 : Int) ≤ (e.1 : Int) := by omega
          have g3 : ¬ (80 : Int) < (e.2 : Int) := by omega
          go_wp2_with fail
          refine hwn.mono ?_
          rintro e' w9 ⟨rfl, hb9⟩
          have HV9 : Hid (HV w9 w.heap.size (.slice (some ⟨g, 0, none⟩) sl cl) q (aQ D) ∧ RO w9 bb (.slice (some ⟨g, 0, none⟩) sl cl) (S.map (numR 4294967276))) := ⟨HV8.out.1.later hb9, HV8.out.2.later hb9⟩
          have hbw9 := bt hbw8 hb9
          have hR9 := Nat.le_trans hR8 hb9.size
          have hBx9 := hBx8.later hb9
          clear HV8 hbw8 hR8 hBx8 hb9 hwn
          by_cases hag : s.size ≤ 200
          · have hagI : (s.size : Int) ≤ 200 := by omega
            obtain ⟨mm, hmm⟩ : ∃ x : Nat, x = min s.size (e.2 - e.1) := ⟨_, rfl⟩
            have hmin : min (s.size : Int) ((e.2 : Int) - (e.1 : Int)) = (mm : Int) := by omega
            have hwrp : IntKind.i64.wrap ((e.2 : Int) - (e.1 : Int)) = (e.2 : Int) - (e.1 : Int) := by rw [IntKind.wrap_i64] <;> omega
            have hmm1 : mm ≤ s.size ∧ mm ≤ e.2 - e.1 := by omega
            have hsl : ∀ W, (Instr.slice 9 (.string s) none (some (.int .i64 (mm : Int))) none).run Try.prog W = .ok (.string (s.extract 0 mm)) W := fun W => by
              simp [Instr.slice, Instr.sliceBounds, Instr.sliceBound, asIntOf, run_underlying Try.underlying9, Result.andThen]
              simp [hmm1.1]
            have hxl : (s.extract 0 mm).size ≤ e.2 - e.1 := by rw [strB_extract, strB_size, List.length_take]; omega
            obtain ⟨tx, htx⟩ : ∃ x, x = s.extract 0 mm := ⟨_, rfl⟩
            rw [← htx] at hsl hxl
            have hput : ∀ W, Below w9.heap.size w9 W → Calls Try.prog 13 #[PQ q, .int .i64 fr, .string tx] W fun e w' => e = .returned (.tuple #[.int .i64 0, .int .i64 0]) ∧ HV w' w.heap.size (.slice (some ⟨g, 0, none⟩) sl cl) q (aQ D) ∧ RO w' bb (.slice (some ⟨g, 0, none⟩) sl cl) (S.map (numR 4294967276)) ∧ Below w.heap.size W w' := fun W hW => by
              rw [HF.out]
              exact av_put (d := e.1) (n := e.2 - e.1) (HV9.out.1.later hW) (HV9.out.2.later hW) HD.out (Nat.le_trans hR9 hW.size) tx (by omega) (by omega) hxl (by omega) (fun x h1 h2 => p4 x h1 (by omega))
            have b09 : w9.drew.cell? ⟨rb, 0, none⟩ = some (.int .i64 fr) := (hBx9.2 0 _ rfl).1
            clear hmm htx
            go_upto_region 20 with fail
            refine wp_region_held_drew (S := (fun _ => True)) (by kernel_rfl) ?_ (fun hHeld => ?_)
            · first | exact trivial | assumption
            refine wpAnyH_take (i := 0) (oi := ({ dst := some 122, op := Go.Op.move (Go.Operand.tmp 5), type := 24, pos := "theorems.go:100", after := #[], guard := none } : Go.Oper)) (v := .pointer (some ⟨q, 0, none⟩)) rfl (by kernel_rfl) (by kernel_rfl) (by kernel_rfl) (fun _ _ _ h => h) (Or.inl ⟨by rfl, ?_⟩) (by assumption) ?_
            · intro wx hSw
              try dsimp only at hSw
              have u9 := hsl wx
              go_simp
              try with_reducible rfl
            try simp only [Act.put, List.setIfInBounds_toArray, List.set_cons_zero, List.set_cons_succ]
            refine wpAnyH_take (i := 1) (oi := ({ dst := some 123, op := Go.Op.fieldAddr 56 (Go.Operand.tmp 13) 0, type := 0, pos := "theorems.go:100", after := #[], guard := none } : Go.Oper)) (v := .pointer (some ⟨rb, 0, none⟩)) rfl (by kernel_rfl) (by kernel_rfl) (by kernel_rfl) (fun _ _ _ h => h) (Or.inl ⟨by rfl, ?_⟩) (by assumption) ?_
            · intro wx hSw
              try dsimp only at hSw
              have u9 := hsl wx
              go_simp
              try with_reducible rfl
            try simp only [Act.put, List.setIfInBounds_toArray, List.set_cons_zero, List.set_cons_succ]
            refine wpAnyH_take (i := 3) (oi := ({ dst := some 125, op := Go.Op.move (Go.Operand.tmp 1), type := 9, pos := "theorems.go:100", after := #[], guard := none } : Go.Oper)) (v := .string s) rfl (by kernel_rfl) (by kernel_rfl) (by kernel_rfl) (fun _ _ _ h => h) (Or.inl ⟨by rfl, ?_⟩) (by assumption) ?_
            · intro wx hSw
              try dsimp only at hSw
              have u9 := hsl wx
              go_simp
              try with_reducible rfl
            try simp only [Act.put, List.setIfInBounds_toArray, List.set_cons_zero, List.set_cons_succ]
            refine wpAnyH_take (i := 4) (oi := ({ dst := some 126, op := Go.Op.move (Go.Operand.tmp 1), type := 9, pos := "theorems.go:100", after := #[], guard := none } : Go.Oper)) (v := .string s) rfl (by kernel_rfl) (by kernel_rfl) (by kernel_rfl) (fun _ _ _ h => h) (Or.inl ⟨by rfl, ?_⟩) (by assumption) ?_
            · intro wx hSw
              try dsimp only at hSw
              have u9 := hsl wx
              go_simp
              try with_reducible rfl
            try simp only [Act.put, List.setIfInBounds_toArray, List.set_cons_zero, List.set_cons_succ]
            refine wpAnyH_take (i := 5) (oi := ({ dst := some 127, op := Go.Op.call { callee := Go.Callee.builtin Go.Builtin.len, args := #[Go.Operand.tmp 126], argTypes := #[9] }, type := 3, pos := "theorems.go:100", after := #[{ on := 4, ground := Go.Ground.data }], guard := none } : Go.Oper)) (v := .int .i64 (s.size : Int)) rfl (by kernel_rfl) (by kernel_rfl) (by kernel_rfl) (fun _ _ _ h => h) (Or.inl ⟨by rfl, ?_⟩) (by assumption) ?_
            · intro wx hSw
              try dsimp only at hSw
              have u9 := hsl wx
              go_simp
              try with_reducible rfl
            try simp only [Act.put, List.setIfInBounds_toArray, List.set_cons_zero, List.set_cons_succ]
            refine wpAnyH_take (i := 6) (oi := ({ dst := some 128, op := Go.Op.move (Go.Operand.tmp 16), type := 3, pos := "theorems.go:100", after := #[], guard := none } : Go.Oper)) (v := .int .i64 (e.2 : Int)) rfl (by kernel_rfl) (by kernel_rfl) (by kernel_rfl) (fun _ _ _ h => h) (Or.inl ⟨by rfl, ?_⟩) (by assumption) ?_
            · intro wx hSw
              try dsimp only at hSw
              have u9 := hsl wx
              go_simp
              try with_reducible rfl
            try simp only [Act.put, List.setIfInBounds_toArray, List.set_cons_zero, List.set_cons_succ]
            refine wpAnyH_take (i := 7) (oi := ({ dst := some 129, op := Go.Op.move (Go.Operand.tmp 14), type := 3, pos := "theorems.go:100", after := #[], guard := none } : Go.Oper)) (v := .int .i64 (e.1 : Int)) rfl (by kernel_rfl) (by kernel_rfl) (by kernel_rfl) (fun _ _ _ h => h) (Or.inl ⟨by rfl, ?_⟩) (by assumption) ?_
            · intro wx hSw
              try dsimp only at hSw
              have u9 := hsl wx
              go_simp
              try with_reducible rfl
            try simp only [Act.put, List.setIfInBounds_toArray, List.set_cons_zero, List.set_cons_succ]
            refine wpAnyH_take (i := 8) (oi := ({ dst := some 130, op := Go.Op.binOp Go.BinOp.sub 3 (Go.Operand.tmp 128) (Go.Operand.tmp 129) 3, type := 3, pos := "theorems.go:100", after := #[{ on := 6, ground := Go.Ground.data }, { on := 7, ground := Go.Ground.data }], guard := none } : Go.Oper)) (v := .int .i64 ((e.2 : Int) - (e.1 : Int))) rfl (by kernel_rfl) (by kernel_rfl) (by kernel_rfl) (fun _ _ _ h => h) (Or.inl ⟨by rfl, ?_⟩) (by assumption) ?_
            · intro wx hSw
              try dsimp only at hSw
              have u9 := hsl wx
              go_simp
              try with_reducible rfl
            try simp only [Act.put, List.setIfInBounds_toArray, List.set_cons_zero, List.set_cons_succ]
            refine wpAnyH_take (i := 9) (oi := ({ dst := some 131, op := Go.Op.call { callee := Go.Callee.builtin Go.Builtin.min, args := #[Go.Operand.tmp 127, Go.Operand.tmp 130], argTypes := #[3, 3] }, type := 3, pos := "theorems.go:100", after := #[{ on := 5, ground := Go.Ground.data }, { on := 8, ground := Go.Ground.data }], guard := none } : Go.Oper)) (v := .int .i64 (mm : Int)) rfl (by kernel_rfl) (by kernel_rfl) (by kernel_rfl) (fun _ _ _ h => h) (Or.inl ⟨by rfl, ?_⟩) (by assumption) ?_
            · intro wx hSw
              try dsimp only at hSw
              have u9 := hsl wx
              go_simp
              try with_reducible rfl
            try simp only [Act.put, List.setIfInBounds_toArray, List.set_cons_zero, List.set_cons_succ]
            refine wpAnyH_take (i := 10) (oi := ({ dst := some 132, op := Go.Op.slice 9 (Go.Operand.tmp 125) none (some (Go.Operand.tmp 131)) none, type := 9, pos := "theorems.go:100", after := #[{ on := 3, ground := Go.Ground.data }, { on := 9, ground := Go.Ground.data }], guard := none } : Go.Oper)) (v := .string tx) rfl (by kernel_rfl) (by kernel_rfl) (by kernel_rfl) (fun _ _ _ h => h) (Or.inl ⟨by rfl, ?_⟩) (by assumption) ?_
            · intro wx hSw
              try dsimp only at hSw
              have u9 := hsl wx
              go_simp
              try with_reducible rfl
            try simp only [Act.put, List.setIfInBounds_toArray, List.set_cons_zero, List.set_cons_succ]
            refine wpAnyH_ready (rs := [2]) (by kernel_rfl) (by simp) ?_
            refine AllReadyH.cons (o := ({ dst := some 124, op := Go.Op.load 3 (Go.Operand.tmp 123), type := 3, pos := "theorems.go:100", after := #[{ on := 1, ground := Go.Ground.data }], guard := none } : Go.Oper)) rfl (fun K hK => ?_) AllReadyH.nil
            go_simp
            refine hK.out _ _ trivial (fun hHeld => ?_)
            clear hK K
            try simp only [Act.put, List.setIfInBounds_toArray, List.set_cons_zero, List.set_cons_succ]
            refine wpAnyH_ready (rs := [11]) (by kernel_rfl) (by simp) ?_
            refine AllReadyH.cons (o := ({ dst := some 133, op := Go.Op.call { callee := Go.Callee.value (Go.Operand.func 13), args := #[Go.Operand.tmp 122, Go.Operand.tmp 124, Go.Operand.tmp 132], argTypes := #[24, 3, 9] }, type := 36, pos := "theorems.go:100", after := #[{ on := 0, ground := Go.Ground.data }, { on := 2, ground := Go.Ground.data }, { on := 10, ground := Go.Ground.data }], guard := none } : Go.Oper)) rfl (fun K hK => ?_) AllReadyH.nil
            go_simp
            refine (hput _ (Below.refl _ _).drew).mono ?_
            rintro e9 wk ⟨rfl, hpx⟩
            have HPX : Hid _ := hpx
            refine hK.out _ _ trivial (fun hHeld => ?_)
            clear hK K
            try simp only [Act.put, List.setIfInBounds_toArray, List.set_cons_zero, List.set_cons_succ]
            refine wpAnyH_done (by kernel_rfl) ?_ _
            clear b09 hput hsl
            go_wp2
            go_roundw
            case rel => exact ⟨i + 1, e.2, by omega, by first | rfl | simp, rfl, HLA.out.symm, ⟨HPX.out.1, HPX.out.2.1⟩, hbw9.drew.trans HPX.out.2.2⟩
            case measure => first | omega | (simp only [RowKit.intOf]; omega) | (simp [RowKit.intOf]; omega)
          · have hagI : ¬ (s.size : Int) ≤ 200 := by omega
            go_wp2
            go_roundw
            case rel => exact ⟨i + 1, e.2, by omega, by first | rfl | simp, rfl, HLA.out.symm, HV9, hbw9⟩
            case measure => first | omega | (simp only [RowKit.intOf]; omega) | (simp [RowKit.intOf]; omega)
          -- @/2
        · have z1 : ¬ (i : Int) < (sl : Int) := by omega
          go_wp2_with fail
          refine (hq_apart HVr.out.1.hq 99).mono ?_
          rintro e w5 ⟨v2, rfl, hR2, hV2, hb5⟩
          rw [HSF.out.eq] at hR2
          have HV5 : Hid (HV w5 w.heap.size (.slice al sl cl) q (aQ D) ∧ RO w5 bb (.slice al sl cl) (S.map (numR 4294967276))) := ⟨HVr.out.1.later hb5, HVr.out.2.later hb5⟩
          have hbw5 := bt hb hb5
          clear HVr hb hb5 hV2 hla z1
          go_wp2_with fail
          refine (same_any hR2.rv HV5.out.2.rv (by rw [List.length_map]; have := HSL.out; omega)).mono ?_
          rintro e w6 ⟨rfl, hb6⟩
          have HV6 : Hid (HV w6 w.heap.size (.slice al sl cl) q (aQ D) ∧ RO w6 bb (.slice al sl cl) (S.map (numR 4294967276))) := ⟨HV5.out.1.later hb6, HV5.out.2.later hb6⟩
          have hbw6 := bt hbw5 hb6
          have hR6 : w.heap.size ≤ w6.heap.size := hbw6.size
          clear HV5 hbw5 hb6 hR2
          go_wp2_with fail
          try go_frame
          go_loopw [18, 140] (fun s18 s140 W => ∃ (j : Nat) (ys : ByteArray), j ≤ 90 ∧ s140 = .int .i64 (j : Int) ∧ s18 = .string ys ∧ Hid (ys.data.toList = List.replicate j 121) ∧ W = w6) (fun _ s140 _ => 90 - (RowKit.intOf s140).toNat)
          case atStart => exact ⟨0, _, Nat.zero_le _, rfl, rfl, rfl, rfl⟩
          case round =>
            obtain ⟨j, ys, hj, rfl, rfl, HY, hwe⟩ := hrel
            subst hwe
            obtain ⟨w6, hw6⟩ : ∃ x, x = wr := ⟨wr, rfl⟩
            subst hw6
            have hysz : ys.size = j := by have := congrArg List.length HY.out; rwa [Array.length_toList, List.length_replicate] at this
            by_cases hjl : j < 90
            · have z2 : (j : Int) < 90 := by omega
              have hcc : ¬ 9223372036854775807 < ys.size + 1 := by omega
              obtain ⟨y2, hy2⟩ : ∃ x, x = ys ++ ⟨#[121]⟩ := ⟨_, rfl⟩
              have HY2 : Hid (y2.data.toList = List.replicate (j + 1) 121) := by
                show _ = _
                rw [hy2, ByteArray.data_append, Array.toList_append, HY.out]
                exact (List.replicate_succ' ..).symm
              have HYE : Hid (ys ++ ⟨#[121]⟩ = y2) := hy2.symm
              clear hy2 hysz
              go_upto_region 28 with fail
              rw [HYE.out]
              go_wp2
              go_roundw
              case rel => exact ⟨j + 1, y2, by omega, by first | rfl | simp, rfl, HY2, by first | rfl | trivial⟩
              case measure => first | omega | (simp only [RowKit.intOf]; omega) | (simp [RowKit.intOf]; omega)
            · obtain rfl : j = 90 := by omega
              have z2 : ¬ ((90 : Nat) : Int) < 90 := by decide
              clear hysz
              have hnx : Calls Try.prog 15 #[PQ q] w6 fun e w' => e = .returned (.int .i64 4294967276) ∧ w' = w6 := hq_next HV6.out.1.hq
              go_wp2_with fail
              refine hnx.mono ?_
              rintro e w7 ⟨rfl, hw7⟩
              subst hw7
              go_wp2_with fail
              refine (av_y HV6.out.1 HV6.out.2 HD.out hR6 ys HY.out).mono ?_
              rintro e w8 ⟨rfl, hV8, hR8, hb8⟩
              have hbw8 := hbw6.trans hb8
              have hRz8 : w.heap.size ≤ w8.heap.size := hbw8.size
              clear hnx HV6 hbw6 hR6 hb8
              go_wp2_with fail
              refine (av_read hV8 hR8 hRz8).mono ?_
              rintro e w9 ⟨rfl, hV9, hR9, hb9⟩
              have hbw9 := hbw8.trans hb9
              have HV9 : Hid (HV w9 w.heap.size (.slice al sl cl) q (zQ D) ∧ RO w9 bb (.slice al sl cl) (S.map (numR 4294967276))) := ⟨hV9, hR9⟩
              clear hV8 hR8 hRz8 hbw8 hb9 hV9 hR9
              obtain ⟨ss, hss⟩ : ∃ x, x = strB (yL D) := ⟨_, rfl⟩
              have hssz : ss.size = 80 := by rw [hss, strB_size, yL_len]
              have hne : ((ss.size : Int) != 80) = false := by rw [hssz]; decide
              have HSS : Hid (ss = strB (yL D) ∧ ss.size = 80) := ⟨hss, hssz⟩
              rw [← hss]
              clear hss hssz
              go_wp2_with fail
              try go_frame
              go_loopw [20, 157] (fun s20 s157 W => ∃ (j : Nat), j ≤ 80 ∧ s157 = .int .i64 (j : Int) ∧ s20 = .int .i64 (cntD D j : Int) ∧ W = w9) (fun _ s157 _ => 80 - (RowKit.intOf s157).toNat)
              case atStart => exact ⟨0, Nat.zero_le _, rfl, rfl, rfl⟩
              case round =>
                obtain ⟨j, hj, rfl, rfl, hwe⟩ := hrel
                subst hwe
                obtain ⟨w9, hw9⟩ : ∃ x, x = wr := ⟨wr, rfl⟩
                subst hw9
                have hcj : cntD D j ≤ j := by unfold cntD; refine Nat.le_trans (List.length_filter_le _ _) ?_; rw [List.length_range]; exact Nat.le_refl _
                by_cases hjl : j < 80
                · have z3 : (j : Int) < (ss.size : Int) := by rw [HSS.out.2]; omega
                  have hsuc := cntD_succ D j
                  have hat := yL_at D hjl
                  cases hDj : D j with
                  | true =>
                    rw [hDj] at hsuc hat
                    have hix := run_ix ss j 120 (by rw [HSS.out.1]; exact hat)
                    rw [show byV 120 = Value.int .u8 120 from rfl] at hix
                    have HSU : Hid (cntD D (j + 1) = cntD D j + 1) := hsuc
                    clear hsuc hat hDj
                    go_wp2
                    go_roundw
                    case rel => exact ⟨j + 1, by omega, by first | rfl | simp, by rw [HSU.out]; simp, by first | rfl | trivial⟩
                    case measure => first | omega | (simp only [RowKit.intOf]; omega) | (simp [RowKit.intOf]; omega)
                  | false =>
                    rw [hDj] at hsuc hat
                    have hix := run_ix ss j 121 (by rw [HSS.out.1]; exact hat)
                    rw [show byV 121 = Value.int .u8 121 from rfl] at hix
                    have HSU : Hid (cntD D (j + 1) = cntD D j) := hsuc
                    clear hsuc hat hDj
                    go_wp2
                    go_roundw
                    case rel => exact ⟨j + 1, by omega, by first | rfl | simp, by rw [HSU.out], by first | rfl | trivial⟩
                    case measure => first | omega | (simp only [RowKit.intOf]; omega) | (simp [RowKit.intOf]; omega)
                · obtain rfl : j = 80 := by omega
                  have z3 : ¬ ((80 : Nat) : Int) < (ss.size : Int) := by rw [HSS.out.2]; omega
                  obtain ⟨mc, hmc⟩ : ∃ x, x = cntD D 80 := ⟨_, rfl⟩
                  have HMC : Hid (mc = cntD D 80) := hmc
                  rw [← hmc] at hcj ⊢
                  clear hmc
                  go_wp2_with fail
                  try go_frame
                  go_loopw [22, 169] (fun s22 s169 W => ∃ (i sm : Nat), i ≤ sl ∧ s169 = .int .i64 (i : Int) ∧ s22 = .int .i64 (sm : Int) ∧ sm ≤ i * 80 ∧ Hid (sm = sumS S i) ∧ Hid (HV W w.heap.size (.slice al sl cl) q (zQ D) ∧ RO W bb (.slice al sl cl) (S.map (numR 4294967276))) ∧ Below w.heap.size w W) (fun _ s169 _ => sl - (RowKit.intOf s169).toNat)
                  case atStart => exact ⟨0, 0, Nat.zero_le _, rfl, rfl, Nat.zero_le _, rfl, HV9, hbw9⟩
                  case round =>
                    clear HV9 hbw9
                    obtain ⟨i, sm, hi, rfl, rfl, hsm, HSM, HVr, hb⟩ := hrel
                    by_cases hil : i < sl
                    · obtain ⟨e, he⟩ : ∃ e, S[i]? = some e := ⟨_, List.getElem?_eq_getElem (by have := HSL.out; omega)⟩
                      obtain ⟨p1, p2, p3, p4, p5⟩ := HSI.out i e he
                      obtain ⟨g, rfl, cf, ct⟩ := HC.out wr i e HVr.out.2 he
                      have HSN : Hid (sumS S (i + 1) = sumS S i + (e.2 - e.1)) := sumS_succ he
                      clear he p4 p5
                      obtain ⟨fr, hfr⟩ : ∃ x, x = (4294967276 + (e.1 : Int)) % 4294967296 := ⟨_, rfl⟩
                      obtain ⟨tt, htt⟩ : ∃ x, x = (4294967276 + (e.2 : Int)) % 4294967296 := ⟨_, rfl⟩
                      rw [← hfr] at cf
                      rw [← htt] at ct
                      have hdd := fun W => dists (a := fr) (b := tt) (by omega) (by omega) W
                      obtain ⟨ed, hed⟩ : ∃ x : Nat, x = e.2 - e.1 := ⟨_, rfl⟩
                      rw [show (tt - fr) % 4294967296 = (ed : Int) by omega] at hdd
                      have hed1 : ed ≤ 80 := by omega
                      have HED : Hid (ed = e.2 - e.1) := hed
                      clear hfr htt hed
                      have hbB := bel1 wr (.cells #[.int .i64 fr, .int .i64 tt] 56)
                      have hBx := At.box wr #[.int .i64 fr, .int .i64 tt] 56
                      go_upto_region 44 with fail
                      have HV1 : Hid (HV (wr.alloc (.cells #[.int .i64 fr, .int .i64 tt] 56)) w.heap.size (.slice (some ⟨g, 0, none⟩) sl cl) q (zQ D) ∧ RO (wr.alloc (.cells #[.int .i64 fr, .int .i64 tt] 56)) bb (.slice (some ⟨g, 0, none⟩) sl cl) (S.map (numR 4294967276))) := ⟨HVr.out.1.later hbB, HVr.out.2.later hbB⟩
                      have hb1 := bt hb hbB
                      clear HVr hb hbB cf ct
                      generalize wr.heap.size = rb at *
                      generalize wr.alloc (.cells #[.int .i64 fr, .int .i64 tt] 56) = w10 at *
                      have b0 : w10.cell? ⟨rb, 0, none⟩ = some (.int .i64 fr) := (hBx.2 0 _ rfl).1
                      have b1 : w10.cell? ⟨rb, 1, none⟩ = some (.int .i64 tt) := (hBx.2 1 _ rfl).1
                      go_wp2_with fail
                      refine (hdd _).mono ?_
                      rintro e' w11 ⟨rfl, hw11⟩
                      subst hw11
                      go_wp2
                      go_roundw
                      case rel => exact ⟨i + 1, sm + ed, by omega, by first | rfl | simp, by first | rfl | simp, by omega, by rw [HSN.out, HSM.out, HED.out]; rfl, HV1, hb1⟩
                      case measure => first | omega | (simp only [RowKit.intOf]; omega) | (simp [RowKit.intOf]; omega)
                    · have z4 : ¬ (i : Int) < (sl : Int) := by omega
                      have hie : i = sl := by omega
                      have hmm : ((mc : Int) == (sm : Int)) = true := by
                        rw [beq_iff_eq, HMC.out, HSM.out, hie, HSL.out, HSF.out.sum]
                      clear hie
                      go_wp2_with fail
                      refine (hq_apart HVr.out.1.hq 9).mono ?_
                      rintro e w12 ⟨v3, rfl, hR3, -, hb12⟩
                      rw [z_apart] at hR3
                      obtain ⟨a3, c3, hv3, -⟩ := hR3.shape
                      have hv3 : v3 = .slice a3 0 c3 := hv3
                      subst hv3
                      go_wp2
                      go_ret
                      exact ⟨rfl, bt hb hb12⟩
end Go.Proofs.Ytiglaalppaljbaa
