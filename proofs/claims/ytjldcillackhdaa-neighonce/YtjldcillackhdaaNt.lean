/- NeighOnce, walked. -/
import Derived.Test.YtjldcillackhdaaNs
import Derived.Test.YtjldcillackhdaaFlat
import Derived.Deep.Cut
import Derived.Deep.CutRange
import Derived.Deep.RegionWith
import Derived.BigRegion
import Derived.Deep.LoopGhost
import Derived.Deep.MidRow
namespace Go.Proofs.Ytjldcillackhdaa
open Go.RowKit Go.Maps Go.Proofs.Ytjldcillackhdaa.Eth Go.Proofs.Ytjldcillackhdaa.Eth.Arp
set_option maxRecDepth 100000
set_option linter.unusedVariables false
set_option linter.unusedSimpArgs false

/-- The numbers are those of rounds. -/
def IDS (gi : Int → List Int) : Prop := ∀ y z, z ∈ gi y → 0 ≤ z ∧ z ≤ 60
theorem IDS.add {gi : Int → List Int} (h : IDS gi) {pt id : Int} (hi : 0 ≤ id ∧ id ≤ 60) : IDS (addG gi pt id) := fun y z hz => by
  unfold addG at hz
  split at hz
  · rcases List.mem_append.1 hz with h1 | h1
    · exact h pt z h1
    · rw [List.mem_singleton.1 h1]; exact hi
  · exact h y z hz
theorem IDS.del {gi : Int → List Int} (h : IDS gi) {pt : Int} : IDS (delG gi pt) := fun y z hz => by
  unfold delG at hz
  split at hz
  · cases hz
  · exact h y z hz
theorem bel_setCells {B : Nat} {w0 : World} {b : Nat} (hb : B ≤ b) : ∀ (vs : List Value) (o : Nat) (w : World), Below B w0 w → Below B w0 (w.setCells b o vs)
  | [], _, _, h => h
  | v :: vs, o, w, h => by
    rw [World.setCells]
    exact bel_setCells hb vs (o + 1) _ (h.setCell (p := ⟨b, o, none⟩) hb v)
theorem size_setCells (b : Nat) : ∀ (vs : List Value) (o : Nat) (w : World), (w.setCells b o vs).heap.size = w.heap.size
  | [], _, _ => rfl
  | v :: vs, o, w => by rw [World.setCells, size_setCells b vs (o + 1) _, World.size_setCell]
theorem at_there {W : World} {b : Nat} {vs : Array Value} (h : At W b vs) : W.there b 0 vs.size := fun j hj => by
  obtain ⟨c, f⟩ := h.2 j vs[j] (Array.getElem?_eq_getElem hj)
  rw [Nat.zero_add]
  exact ⟨by rw [c]; rfl, f⟩
theorem at_whole {W : World} {b : Nat} {old vs : Array Value} (h : At W b old) (hs : old.size = vs.size) : At (W.setCells b 0 vs.toList) b vs := by
  refine ⟨by rw [size_setCells]; exact h.1, fun i v hi => ⟨?_, ?_⟩⟩
  · have hr := World.rangeAt_setCells_same W b 0 vs.toList (by rw [show vs.toList.length = old.size by rw [hs]; simp]; exact at_there h)
    have := hr i v (by simpa using hi)
    rwa [Nat.zero_add] at this
  · rw [World.frozen?_setCells]
    have hlt : i < old.size := by rw [hs]; exact (Array.getElem?_eq_some_iff.1 hi).1
    exact (h.2 i old[i] (Array.getElem?_eq_getElem hlt)).2
/-- A struct stored whole into the block just made for it. -/
theorem wpList_store_new {ops : Array Oper} {rest : List Oper} {op : Oper} {a : Act} {Q : Exit → Act → World → Prop} (hgd : op.guard = none) (ty : TypeId) (x y : Operand) (ho : op.op = .store ty x y) (w : World) (z cells : Array Value) (t : TypeId) (hx : a.eval x = .pointer (some ⟨w.heap.size, 0, none⟩)) (hy : a.eval y = .agg cells) (hzs : z.size = cells.size) (hi : (Try.prog.info? ty).map (·.size) = some cells.size) (h1 : cells.all (·.oneCell') = true)
    (h : ∀ w', At w' w.heap.size cells → Below w.heap.size w w' → wpList Try.prog ops Q rest (a.put op.dst undef) w') : wpList Try.prog ops Q (op :: rest) a (w.alloc (.cells z t)) := by
  have hB := At.box w z t
  refine wpList_store_mid hgd ty x y ho w.heap.size 0 cells hx hy (by rw [← hzs]; exact at_there hB) hi h1 ?_
  exact h _ (at_whole hB hzs) (bel_setCells (Nat.le_refl _) _ _ _ (bel1 w _))
theorem sum_le {la wt : Int} {gk : Int → Option (Int × Int)} {ga : Ga} {gi : Int → List Int} (p : OP la wt gk ga gi) : ∀ j : Nat, 0 ≤ sumL gi j ∧ sumL gi j ≤ 30 * (j : Int)
  | 0 => by simp [sumL]
  | j + 1 => by
    have := sum_le p j
    have h1 := p.len (11 + (j : Int))
    have h2 := p.le
    simp only [sumL]
    omega
set_option maxHeartbeats 16000000 in
theorem once_law (a : Option Addr) (n cap : Nat) (w : World) (hr : Flat.Rows w a n 19 [.i, .i, .i, .i, .i, .i, .i, .i, .i, .b, .b, .s, .s, .i, .i, .i, .i, .i, .b]) (hz : n < 1000000000000) :
    Calls Try.prog 3 #[.slice a n cap] w fun e w' => e = .returned (.bool true) ∧ Below w.heap.size w w' := by
  have HA : Hid (Flat.Rows w a n 19 [.i, .i, .i, .i, .i, .i, .i, .i, .i, .b, .b, .s, .s, .i, .i, .i, .i, .i, .b]) := hr
  clear hr
  have hmm := @run_makeMap Try.prog
  go_enter Try.func3, Try.ntmps3
  go_wp2_with fail
  refine (cache_any w).mono ?_
  rintro e w1 ⟨C, M, A, g, c, rfl, hC, hO, hM, hA, ⟨l1, l2, l3, l4⟩, ⟨n1, n2, n3, n4⟩, hb1⟩
  have hCM := ne_at_vm hC rfl hM
  have hCA := ne_at_vm hC rfl hA
  go_wp2_with fail
  refine (works_any w1).mono ?_
  rintro e w3 ⟨rfl, hb2⟩
  have q1 := bel1 w3 (.map #[] 0)
  have q2 := bel1 (w3.alloc (.map #[] 0)) (.map #[] 0)
  have hq := bt hb2 (bt q1 q2)
  have hH4 := (VM.made w3).later q2
  have hT4 := VM.made (w3.alloc (.map #[] 0))
  rw [show (w3.alloc (.map #[] 0)).heap.size = w3.heap.size + 1 by simp] at hT4
  have hs4 : w3.heap.size + 2 = ((w3.alloc (.map #[] 0)).alloc (.map #[] 0)).heap.size := by simp
  have hb4 := bt hb1 hq
  have hCl := (hC.later hb2).1
  have hMl := (hM.later hb2).lt
  have hAl := (hA.later hb2).lt
  have hgl := (hO.later hb2).lt g rfl
  have KCH : KC w.heap.size C M A g w3.heap.size (w3.heap.size + 1) (w3.heap.size + 2) := ⟨⟨l1, l2, l3⟩, ⟨hCA, hCM, n1, n4, n2, n3⟩, hCl, hMl, hAl, hgl, by omega, by omega⟩
  have hS0 : (OW ((w3.alloc (.map #[] 0)).alloc (.map #[] 0)) C M A g c w3.heap.size (w3.heap.size + 1) (w3.heap.size + 2) 0 0 (fun _ => none) (fun _ => none) (fun _ => []) (fun _ => []) (fun _ => none) (fun _ => none)) := ⟨hC.later hq, (hO.later hq).low (Nat.zero_le _), KM.nil (hM.later hq), AM.nil (hA.later hq), ⟨[], hH4, fun _ => rfl⟩, ⟨[], hT4, fun _ => rfl⟩, fun k => OI.nil _ _, (fun k k' hk b hb => by simp [Value.ownBlock] at hb), (fun k p hp => by cases hp), by omega⟩
  have hP0 : OP 0 0 (fun _ => none) (fun _ => none) (fun _ => []) := ⟨(fun k p h => by cases h), (fun k h => by cases h), (fun k p h => by cases h), fun _ _ => rfl, fun k h => absurd rfl h, by simp, by decide, by decide⟩
  clear hC hO hM hA hb1 hb2 q1 q2 hq hH4 hT4 hs4
  go_upto_region 6 with fail
  generalize (w3.alloc (.map #[] 0)).alloc (.map #[] 0) = w4 at *
  generalize hK : w3.heap.size = K at *
  clear hK
  go_wp2
  go_loopw [6, 7, 8, 9] (fun s m q i wr => ∃ (k : Nat) (now la wt gone : Int) (gk : Int → Option (Int × Int)) (ga : Ga) (gi : Int → List Int) (tf : Int → Option Int) (wf : Int → Option Value), k ≤ n ∧ k ≤ 60 ∧ i = .int .i64 (k : Int) ∧ s = .int .i64 now ∧ m = .int .i64 (gone + wt) ∧ q = .int .i64 gone ∧ (OW wr C M A g c K (K + 1) (K + 2) la wt gk ga gi gi tf wf) ∧ OP la wt gk ga gi ∧ TO la gk tf ∧ TW tf wf ∧ IDS gi ∧ (0 ≤ la ∧ la ≤ now) ∧ now ≤ 2 * (k : Int) ∧ 0 ≤ gone ∧ gone + wt ≤ (k : Int) ∧ Below w.heap.size w wr) (fun _ _ _ i _ => n - (intOf i).toNat)
  case atStart => exact ⟨0, 0, 0, 0, 0, _, _, _, _, _, Nat.zero_le _, by decide, rfl, rfl, rfl, rfl, hS0, hP0, (fun k m t h => by cases h), ⟨(fun k h => by cases h), (fun k h => by cases h)⟩, (fun y z h => by cases h), by decide, by decide, by decide, by decide, hb4⟩
  case round =>
    clear hS0 hP0 hb4
    obtain ⟨k, now, la, wt, gone, gk, ga, gi, tf, wf, hkn, hk60, rfl, rfl, rfl, rfl, hS, hP, hT, hTW, hIDS, hla, hnow, hg0, hgk, hb⟩ := hrel
    have hwt0 : 0 ≤ wt := by have := hP.sm; omega
    have hwt1 := hP.le
    by_cases hlt : k < n ∧ k < 60
    rotate_left
    · clear HA hT
      by_cases hkk : k < n
      · have hk6 : ¬ (k : Int) < 60 := by omega
        have hk1 : (k : Int) < (n : Int) := by omega
        as_aux_lemma =>
          go_wp2
          go_loopw [29, 30] (fun l t wi => ∃ j : Nat, j ≤ 4 ∧ t = .int .i64 (11 + (j : Int)) ∧ l = .int .i64 (sumL gi j) ∧ wi = wr) (fun _ t _ => 15 - (intOf t).toNat)
          case atStart => exact ⟨0, by decide, rfl, rfl, rfl⟩
          case round =>
            obtain ⟨j, hj, rfl, rfl, rfl⟩ := hrel
            obtain ⟨wl, hWl, hwl⟩ := hS.hW
            have hsj := sum_le hP j
            by_cases hjl : j < 4
            · have hj5 : (11 : Int) + (j : Int) < 15 := by omega
              have hlW := hWl.look (t := 27) (k := 11 + (j : Int)) Try.underlying27 zeroS (WalkArith.wf_i64 (by omega))
              rw [hwl] at hlW
              obtain ⟨sa, sc, hsv⟩ := (hS.hI (11 + (j : Int))).shape
              rw [hsv] at hlW
              have hln := hP.len (11 + (j : Int))
              have hle := hP.le
              go_wp2
              go_roundw
              case rel => exact ⟨j + 1, by omega, (by first | trivial | (simp; done) | (simp; omega) | (congr 1; omega) | rfl), (by first | trivial | (simp; done) | (simp; omega) | (congr 1; omega) | rfl), (by first | trivial | (simp; done) | (simp; omega) | (congr 1; omega) | rfl)⟩
              case measure => simp [intOf]; omega
            · have hj4 : j = 4 := by omega
              subst hj4
              have hs4 : sumL gi 4 = wt := by have := hP.sm; simp [sumL]; omega
              rw [hs4]
              go_wp2
              go_ret
              exact ⟨rfl, hb⟩
      · have hk1 : ¬ (k : Int) < (n : Int) := by omega
        as_aux_lemma =>
          go_wp2
          go_loopw [29, 30] (fun l t wi => ∃ j : Nat, j ≤ 4 ∧ t = .int .i64 (11 + (j : Int)) ∧ l = .int .i64 (sumL gi j) ∧ wi = wr) (fun _ t _ => 15 - (intOf t).toNat)
          case atStart => exact ⟨0, by decide, rfl, rfl, rfl⟩
          case round =>
            obtain ⟨j, hj, rfl, rfl, rfl⟩ := hrel
            obtain ⟨wl, hWl, hwl⟩ := hS.hW
            have hsj := sum_le hP j
            by_cases hjl : j < 4
            · have hj5 : (11 : Int) + (j : Int) < 15 := by omega
              have hlW := hWl.look (t := 27) (k := 11 + (j : Int)) Try.underlying27 zeroS (WalkArith.wf_i64 (by omega))
              rw [hwl] at hlW
              obtain ⟨sa, sc, hsv⟩ := (hS.hI (11 + (j : Int))).shape
              rw [hsv] at hlW
              have hln := hP.len (11 + (j : Int))
              have hle := hP.le
              go_wp2
              go_roundw
              case rel => exact ⟨j + 1, by omega, (by first | trivial | (simp; done) | (simp; omega) | (congr 1; omega) | rfl), (by first | trivial | (simp; done) | (simp; omega) | (congr 1; omega) | rfl), (by first | trivial | (simp; done) | (simp; omega) | (congr 1; omega) | rfl)⟩
              case measure => simp [intOf]; omega
            · have hj4 : j = 4 := by omega
              subst hj4
              have hs4 : sumL gi 4 = wt := by have := hP.sm; simp [sumL]; omega
              rw [hs4]
              go_wp2
              go_ret
              exact ⟨rfl, hb⟩
    obtain ⟨ab, off, rfl, hrow⟩ : ∃ b off, a = some ⟨b, off, none⟩ ∧ ∀ k, k < n → ∃ cs : List Value, Flat.Ok [.i, .i, .i, .i, .i, .i, .i, .i, .i, .b, .b, .s, .s, .i, .i, .i, .i, .i, .b] cs ∧ ∀ j v, cs[j]? = some v → w.cell? ⟨b, off + k * 19 + j, none⟩ = some v := by
      rcases HA.out with h | h
      · omega
      · exact h
    obtain ⟨cs, ⟨hcl, hck⟩, hcc0⟩ := hrow k hlt.1
    clear hrow
    match cs, hcl with
    | [v0, v1, v2, v3, v4, v5, v6, v7, v8, v9, v10, v11, v12, v13, v14, v15, v16, v17, v18], _ =>
    obtain ⟨kd, rfl, -⟩ := hck 0 _ _ rfl rfl
    obtain ⟨td, rfl, -⟩ := hck 1 _ _ rfl rfl
    obtain ⟨nd, rfl, -⟩ := hck 2 _ _ rfl rfl
    obtain ⟨p0, rfl, -⟩ := hck 3 _ _ rfl rfl
    obtain ⟨p1, rfl, -⟩ := hck 4 _ _ rfl rfl
    obtain ⟨p2, rfl, -⟩ := hck 5 _ _ rfl rfl
    obtain ⟨p3, rfl, -⟩ := hck 6 _ _ rfl rfl
    obtain ⟨p4, rfl, -⟩ := hck 7 _ _ rfl rfl
    obtain ⟨p5, rfl, -⟩ := hck 8 _ _ rfl rfl
    obtain ⟨p6, rfl⟩ := hck 9 _ _ rfl rfl
    obtain ⟨p7, rfl⟩ := hck 10 _ _ rfl rfl
    obtain ⟨p8, rfl, -⟩ := hck 11 _ _ rfl rfl
    obtain ⟨p9, rfl, -⟩ := hck 12 _ _ rfl rfl
    obtain ⟨r0, rfl, -⟩ := hck 13 _ _ rfl rfl
    obtain ⟨md, rfl, -⟩ := hck 14 _ _ rfl rfl
    obtain ⟨r2, rfl, -⟩ := hck 15 _ _ rfl rfl
    obtain ⟨r3, rfl, -⟩ := hck 16 _ _ rfl rfl
    obtain ⟨r4, rfl, -⟩ := hck 17 _ _ rfl rfl
    obtain ⟨hv, rfl⟩ := hck 18 _ _ rfl rfl
    have hrng : wr.rangeAt ab (off + k * 19) [.int .i64 kd, .int .i64 td, .int .i64 nd, .int .i64 p0, .int .i64 p1, .int .i64 p2, .int .i64 p3, .int .i64 p4, .int .i64 p5, .bool p6, .bool p7, .string p8, .string p9, .int .i64 r0, .int .i64 md, .int .i64 r2, .int .i64 r3, .int .i64 r4, .bool hv] := fun j v hv => later hb (hcc0 j v hv)
    clear hcc0 hck
    have hk1 : (k : Int) < (n : Int) := by omega
    have hk2 : (k : Int) < 60 := by omega
    have hk3 : (0 : Int) ≤ (k : Int) := by omega
    have hone : (#[.int .i64 kd, .int .i64 td, .int .i64 nd, .int .i64 p0, .int .i64 p1, .int .i64 p2, .int .i64 p3, .int .i64 p4, .int .i64 p5, .bool p6, .bool p7, .string p8, .string p9, .int .i64 r0, .int .i64 md, .int .i64 r2, .int .i64 r3, .int .i64 r4, .bool hv] : Array Value).all (·.oneCell') = true := by simp [Value.oneCell']
    go_upto_region 11 with (first
      | (refine wpList_load_mid rfl 33 _ rfl ab (off + k * 19) rfl _ _ hrng Try.underlying33 rfl (by kernel_rfl) ?_)
      | (refine wpList_store_new rfl 33 _ _ rfl wr _ #[.int .i64 kd, .int .i64 td, .int .i64 nd, .int .i64 p0, .int .i64 p1, .int .i64 p2, .int .i64 p3, .int .i64 p4, .int .i64 p5, .bool p6, .bool p7, .string p8, .string p9, .int .i64 r0, .int .i64 md, .int .i64 r2, .int .i64 r3, .int .i64 r4, .bool hv] _ rfl rfl rfl (by kernel_rfl) hone ?_; intro w1 hAct q1)
      | go_in)
    replace hS := hS.later q1
    replace hb := bt hb q1
    clear hrng q1 hone
    obtain ⟨Ab, hAb⟩ : ∃ x, x = wr.heap.size := ⟨_, rfl⟩
    rw [← hAb] at hAct
    rw [← hAb]
    clear hAb
    have a0 : w1.cell? ⟨Ab, 0, none⟩ = some (.int .i64 kd) := (hAct.2 0 _ rfl).1
    have a1 : w1.cell? ⟨Ab, 1, none⟩ = some (.int .i64 td) := (hAct.2 1 _ rfl).1
    have a2 : w1.cell? ⟨Ab, 2, none⟩ = some (.int .i64 nd) := (hAct.2 2 _ rfl).1
    have a14 : w1.cell? ⟨Ab, 14, none⟩ = some (.int .i64 md) := (hAct.2 14 _ rfl).1
    go_wp2_with fail
    refine (among_any nd 3 w1 (by decide) (by decide)).mono ?_
    rintro e w2 ⟨rfl, rfl⟩
    have hn0 : 0 ≤ nd % 3 := Int.emod_nonneg _ (by decide)
    have hn1 : nd % 3 < 3 := Int.emod_lt_of_pos _ (by decide)
    generalize nd % 3 = dn at *
    go_wp2_with fail
    refine (among_any td 4 _ (by decide) (by decide)).mono ?_
    rintro e w2 ⟨rfl, rfl⟩
    have ht0 : 0 ≤ td % 4 := Int.emod_nonneg _ (by decide)
    have ht1 : td % 4 < 4 := Int.emod_lt_of_pos _ (by decide)
    generalize td % 4 = tq at *
    go_wp2_with fail
    refine (among_any kd 3 _ (by decide) (by decide)).mono ?_
    rintro e w1 ⟨rfl, rfl⟩
    have hd0 : 0 ≤ kd % 3 := Int.emod_nonneg _ (by decide)
    have hd1 : kd % 3 < 3 := Int.emod_lt_of_pos _ (by decide)
    generalize kd % 3 = kq at *
    obtain ⟨now', hnw⟩ : ∃ x, x = now + dn := ⟨_, rfl⟩
    rw [← hnw]
    obtain ⟨to_, hto⟩ : ∃ x, x = 11 + tq := ⟨_, rfl⟩
    rw [← hto]
    have hN1 : la ≤ now' := by omega
    have hN2 : now' ≤ 2 * (k : Int) + 2 := by omega
    have hT1 : 11 ≤ to_ := by omega
    have hT2 : to_ < 15 := by omega
    clear hnw hto ht0 ht1 hn0 hn1 hnow a0 a1 a2
    have hla0 := hla.1
    have hkq : kq = 0 ∨ kq = 1 ∨ kq = 2 := by omega
    clear hd0 hd1
    rcases hkq with rfl | rfl | rfl
    · as_aux_lemma =>
        have hPk := At.box w1 #[.int .i64 10, .int .i64 to_, .int .i64 9, .int .i64 0, .int .i64 (k : Int), .int .i64 0, .bool false, .bool false, .string ⟨#[]⟩, .string ⟨#[]⟩] 29
        have q2 := bel1 w1 (.cells #[.int .i64 10, .int .i64 to_, .int .i64 9, .int .i64 0, .int .i64 (k : Int), .int .i64 0, .bool false, .bool false, .string ⟨#[]⟩, .string ⟨#[]⟩] 29)
        go_upto_region 27 with fail
        replace hS := hS.later q2
        replace hb := bt hb q2
        clear hAct
        generalize w1.alloc (.cells #[.int .i64 10, .int .i64 to_, .int .i64 9, .int .i64 0, .int .i64 (k : Int), .int .i64 0, .bool false, .bool false, .string ⟨#[]⟩, .string ⟨#[]⟩] 29) = w3 at *
        obtain ⟨t0, t1, t2, t3, t4, t5, t6, t7, t8, t9⟩ := hPk.ten
        go_wp2_with fail
        refine (send_once KCH hS hP to_ (k : Int) now' (by omega) (by omega) (by omega)).mono ?_
        rintro e w5 ⟨hb5, hcase⟩
        replace hb := hb.trans hb5
        clear t0 t1 t2 t3 t4 t5 t6 t7 t8 t9 hPk hb5
        have hwk : (Lit.int .i64 to_).wf = true := WalkArith.wf_i64 (by omega)
        rcases hcase with ⟨mo, t, hg, ht, rfl, hS5⟩ | ⟨rfl, hS5⟩ | ⟨hgi, rfl, ga', hS5, hP5⟩ | ⟨hgi, rfl, ga', hS5, hP5⟩
        · have htf : tf to_ = some mo := by
            rcases hT to_ mo t hg with h | h
            · exact h
            · omega
          have q6 := bel1 w5 (.cells #[.int .i64 0, .int .i64 0, .int .i64 0, .int .i64 0, .int .i64 0] 31)
          have hAsk := At.box w5 #[.int .i64 0, .int .i64 0, .int .i64 0, .int .i64 0, .int .i64 0] 31
          go_upto_region 28 with fail
          replace hS5 := hS5.later q6
          replace hb := bt hb q6
          obtain ⟨AB, hAB⟩ : ∃ x, x = w5.heap.size := ⟨_, rfl⟩
          rw [← hAB] at hAsk
          rw [← hAB]
          generalize w5.alloc (.cells #[.int .i64 0, .int .i64 0, .int .i64 0, .int .i64 0, .int .i64 0] 31) = w6 at *
          obtain ⟨⟨u0, u1, u2, u3, u4⟩, -, -⟩ := hAsk.five
          clear hAsk q6 hAB
          obtain ⟨tl, hTl, htl⟩ := hS5.hT
          have hlT := hTl.look (t := 26) (k := to_) Try.underlying26 zeroI hwk
          rw [htl, htf, Option.map_some, Option.getD_some] at hlT
          clear htf hTl htl hS
          go_wp2
          go_roundw
          case rel => exact ⟨k + 1, now', now', wt, gone, gk, ga, gi, tf, wf, by omega, by omega, (by first | trivial | (simp; done) | (simp; omega) | (congr 1; omega) | rfl), (by first | trivial | (simp; done) | (simp; omega) | (congr 1; omega) | rfl), (by first | trivial | (simp; done) | (simp; omega) | (congr 1; omega) | rfl), (by first | trivial | (simp; done) | (simp; omega) | (congr 1; omega) | rfl), hS5, hP.on (by omega), fun y m t hy => (hT y m t hy).imp id (fun h => by omega), hTW, hIDS, by omega, by omega, by omega, by omega, hb⟩
          case measure => simp [intOf]; omega
        · have q6 := bel1 w5 (.cells #[.int .i64 0, .int .i64 0, .int .i64 0, .int .i64 0, .int .i64 0] 31)
          have hAsk := At.box w5 #[.int .i64 0, .int .i64 0, .int .i64 0, .int .i64 0, .int .i64 0] 31
          go_upto_region 28 with fail
          replace hS5 := hS5.later q6
          replace hb := bt hb q6
          obtain ⟨AB, hAB⟩ : ∃ x, x = w5.heap.size := ⟨_, rfl⟩
          rw [← hAB] at hAsk
          rw [← hAB]
          generalize w5.alloc (.cells #[.int .i64 0, .int .i64 0, .int .i64 0, .int .i64 0, .int .i64 0] 31) = w6 at *
          obtain ⟨⟨u0, u1, u2, u3, u4⟩, -, -⟩ := hAsk.five
          clear hAsk q6 hAB
          clear hS
          go_wp2
          go_roundw
          case rel => exact ⟨k + 1, now', now', wt, gone, gk, ga, gi, tf, wf, by omega, by omega, (by first | trivial | (simp; done) | (simp; omega) | (congr 1; omega) | rfl), (by first | trivial | (simp; done) | (simp; omega) | (congr 1; omega) | rfl), (by first | trivial | (simp; done) | (simp; omega) | (congr 1; omega) | rfl), (by first | trivial | (simp; done) | (simp; omega) | (congr 1; omega) | rfl), hS5, hP.on (by omega), fun y m t hy => (hT y m t hy).imp id (fun h => by omega), hTW, hIDS, by omega, by omega, by omega, by omega, hb⟩
          case measure => simp [intOf]; omega

        · have q6 := bel1 w5 (.cells #[.int .i64 1, .int .i64 2, .int .i64 10, .int .i64 0, .int .i64 to_] 31)
          have hAsk := At.box w5 #[.int .i64 1, .int .i64 2, .int .i64 10, .int .i64 0, .int .i64 to_] 31
          go_upto_region 28 with fail
          replace hS5 := hS5.later q6
          replace hb := bt hb q6
          obtain ⟨AB, hAB⟩ : ∃ x, x = w5.heap.size := ⟨_, rfl⟩
          rw [← hAB] at hAsk
          rw [← hAB]
          generalize w5.alloc (.cells #[.int .i64 1, .int .i64 2, .int .i64 10, .int .i64 0, .int .i64 to_] 31) = w6 at *
          obtain ⟨⟨u0, u1, u2, u3, u4⟩, -, -⟩ := hAsk.five
          clear hAsk q6 hAB
          obtain ⟨wl, hWl, hwl⟩ := hS5.hW
          have hlW := hWl.look (t := 27) (k := to_) Try.underlying27 zeroS hwk
          rw [hwl] at hlW
          have hIt := hS5.hI to_
          obtain ⟨sa, sc, hsv⟩ := hIt.shape
          rw [hsv] at hlW hIt
          have hgl : (gi to_).length = 0 := by rw [hgi]; rfl
          rw [hgl] at hlW hIt hsv
          have hln := hP.len to_
          have hle := hP.le
          have hll := hTW.len2 hWl.2 hwl
          clear hS
          go_upto_region 32 with fail
          go_upto_region 33 with (first
            | (at_builtin; refine wpList_appendO rfl _ _ rfl (K + 2) (.slice sa 0 sc) (gi to_) (k : Int) rfl hIt rfl hS5.hs (by omega) ?_; intro v7 w7 hI7 ht7 hf7)
            | (at_mapUpdate; refine wpList_put_vm rfl _ _ _ rfl (K + 1) wl to_ v7 hwk Try.underlying27 (by omega) rfl (hWl.turn ht7 (fun he => by have := hIt.ge _ he; omega)) rfl rfl ?_; intro w8 hV8 ht8)
            | go_in)
          have hS8 := OW.putW KCH hS5 hWl hwl (pt := to_) (v := v7) (by rw [hsv]; exact ht7) hI7 (by rw [hsv]; exact hf7) hV8 ht8
          have hb8 : Below w.heap.size w w8 := (hb.trans (ht7.below hb.size (fun j hj he => by have := hIt.ge _ he; omega))).trans (ht8.below (by have := hb.size; have := ht7.size; omega) (fun j hj he => by omega))
          have hwi : (fun y => if y = to_ then gi to_ ++ [(k : Int)] else gi y) = addG gi to_ (k : Int) := rfl
          rw [hwi] at hS8
          clear hS5 hWl hwl hIt hlW hV8
          go_wp2
          go_roundw
          case rel => exact ⟨k + 1, now', now', wt + 1, gone, gk, ga', addG gi to_ (k : Int), tf, _, by omega, by omega, (by first | trivial | (simp; done) | (simp; omega) | (congr 1; omega) | rfl), (by first | trivial | (simp; done) | (simp; omega) | (congr 1; omega) | rfl), (by first | trivial | (simp; done) | (simp; omega) | (congr 1; omega) | rfl), (by first | trivial | (simp; done) | (simp; omega) | (congr 1; omega) | rfl), hS8, hP5, fun y m t hy => (hT y m t hy).imp id (fun h => by omega), hTW.put2 (by omega), hIDS.add (by omega), by omega, by omega, by omega, by omega, hb8⟩
          case measure => simp [intOf]; omega

        · have q6 := bel1 w5 (.cells #[.int .i64 0, .int .i64 0, .int .i64 0, .int .i64 0, .int .i64 0] 31)
          have hAsk := At.box w5 #[.int .i64 0, .int .i64 0, .int .i64 0, .int .i64 0, .int .i64 0] 31
          go_upto_region 28 with fail
          replace hS5 := hS5.later q6
          replace hb := bt hb q6
          obtain ⟨AB, hAB⟩ : ∃ x, x = w5.heap.size := ⟨_, rfl⟩
          rw [← hAB] at hAsk
          rw [← hAB]
          generalize w5.alloc (.cells #[.int .i64 0, .int .i64 0, .int .i64 0, .int .i64 0, .int .i64 0] 31) = w6 at *
          obtain ⟨⟨u0, u1, u2, u3, u4⟩, -, -⟩ := hAsk.five
          clear hAsk q6 hAB
          obtain ⟨wl, hWl, hwl⟩ := hS5.hW
          have hlW := hWl.look (t := 27) (k := to_) Try.underlying27 zeroS hwk
          rw [hwl] at hlW
          have hIt := hS5.hI to_
          obtain ⟨sa, sc, hsv⟩ := hIt.shape
          rw [hsv] at hlW hIt
          have hgl : (gi to_).length ≠ 0 := fun h => hgi (List.eq_nil_of_length_eq_zero h)
          have hgl' : ((gi to_).length : Int) ≠ 0 := by omega
          have hln := hP.len to_
          have hle := hP.le
          have hll := hTW.len2 hWl.2 hwl
          clear hS
          go_upto_region 32 with fail
          go_upto_region 33 with (first
            | (at_builtin; refine wpList_appendO rfl _ _ rfl (K + 2) (.slice sa (gi to_).length sc) (gi to_) (k : Int) rfl hIt rfl hS5.hs (by omega) ?_; intro v7 w7 hI7 ht7 hf7)
            | (at_mapUpdate; refine wpList_put_vm rfl _ _ _ rfl (K + 1) wl to_ v7 hwk Try.underlying27 (by omega) rfl (hWl.turn ht7 (fun he => by have := hIt.ge _ he; omega)) rfl rfl ?_; intro w8 hV8 ht8)
            | go_in)
          have hS8 := OW.putW KCH hS5 hWl hwl (pt := to_) (v := v7) (by rw [hsv]; exact ht7) hI7 (by rw [hsv]; exact hf7) hV8 ht8
          have hb8 : Below w.heap.size w w8 := (hb.trans (ht7.below hb.size (fun j hj he => by have := hIt.ge _ he; omega))).trans (ht8.below (by have := hb.size; have := ht7.size; omega) (fun j hj he => by omega))
          have hwi : (fun y => if y = to_ then gi to_ ++ [(k : Int)] else gi y) = addG gi to_ (k : Int) := rfl
          rw [hwi] at hS8
          clear hS5 hWl hwl hIt hlW hV8
          go_wp2
          go_roundw
          case rel => exact ⟨k + 1, now', now', wt + 1, gone, gk, ga', addG gi to_ (k : Int), tf, _, by omega, by omega, (by first | trivial | (simp; done) | (simp; omega) | (congr 1; omega) | rfl), (by first | trivial | (simp; done) | (simp; omega) | (congr 1; omega) | rfl), (by first | trivial | (simp; done) | (simp; omega) | (congr 1; omega) | rfl), (by first | trivial | (simp; done) | (simp; omega) | (congr 1; omega) | rfl), hS8, hP5, fun y m t hy => (hT y m t hy).imp id (fun h => by omega), hTW.put2 (by omega), hIDS.add (by omega), by omega, by omega, by omega, by omega, hb8⟩
          case measure => simp [intOf]; omega
    · as_aux_lemma =>
        have hm0 : 0 ≤ md % 5 := Int.emod_nonneg _ (by decide)
        have hm1 : md % 5 < 5 := Int.emod_lt_of_pos _ (by decide)
        go_wp2_with fail
        refine (among_any md 5 _ (by decide) (by decide)).mono ?_
        rintro e w3 ⟨rfl, rfl⟩
        generalize md % 5 = mq at *
        clear hAct a14
        have hwk : (Lit.int .i64 to_).wf = true := WalkArith.wf_i64 (by omega)
        go_wp2_with fail
        obtain ⟨fm, hfm⟩ : ∃ x, x = 3 + mq := ⟨_, rfl⟩
        rw [← hfm]
        have hf1 : 3 ≤ fm := by omega
        have hf2 : fm < 10 := by omega
        clear hfm hm0 hm1
        refine (take_one KCH hS hP to_ fm now' (by omega) (by omega) (by omega) hT).mono ?_
        rintro e w5 ⟨gk', ga', qp, qc, x, rfl, hR5, hS5, hP5, hT5, hb5⟩
        replace hb := hb.trans hb5
        clear hb5 hS hT
        have q6 := bel1 w5 (.cells #[.int .i64 0, .int .i64 0, .int .i64 0, .int .i64 0, .int .i64 0] 31)
        go_upto_region 37 with fail
        replace hS5 := hS5.later q6
        replace hR5 := hR5.later q6
        replace hb := bt hb q6
        clear q6
        generalize w5.alloc (.cells #[.int .i64 0, .int .i64 0, .int .i64 0, .int .i64 0, .int .i64 0] 31) = w6 at *
        have hln := hP.len to_
        have hll0 : 0 ≤ ((gi to_).length : Int) := by omega
        obtain ⟨wl, hWl, hwl⟩ := hS5.hW
        have hlW := hWl.look (t := 27) (k := to_) Try.underlying27 zeroS hwk
        rw [hwl] at hlW
        obtain ⟨sa, sc, hsv⟩ := (hS5.hI to_).shape
        rw [hsv] at hlW
        obtain ⟨tl, hTl, htl⟩ := hS5.hT
        have htll := hTW.len1 hTl.2 htl
        go_upto_region 39 with fail
        go_upto_region 40 with (first
          | (at_mapUpdate; refine wpList_put_vm rfl _ _ _ rfl K tl to_ (.int .i64 fm) hwk Try.underlying26 (by omega) rfl hTl rfl rfl ?_; intro w8 hV8 ht8)
          | go_in)
        have hS8 := OW.putT KCH hS5 hTl htl hV8 ht8
        have hR8 := hR5.turn ht8 (fun b hb he => by have := hR5.ge b hb; have := KCH.lt; omega)
        have hb8 : Below w.heap.size w w8 := hb.trans (ht8.below hb.size (fun j hj he => by have := KCH.lt; have := KCH.low; omega))
        clear hS5 hR5 hb hlW hWl hwl hTl htl hV8 hsv
        go_wp2
        go_loopw [208] (fun i wi => ∃ j : Nat, j ≤ (gi to_).length ∧ i = .int .i64 (j : Int) ∧ Below w8.heap.size w8 wi) (fun i _ => (gi to_).length - (intOf i).toNat)
        case atStart => exact ⟨0, Nat.zero_le _, rfl, Below.refl _ _⟩
        case round =>
          obtain ⟨j, hj, rfl, hbi⟩ := hrel
          have hS9 := hS8.later hbi
          obtain ⟨wl, hWl, hwl⟩ := hS9.hW
          by_cases hjl : j < (gi to_).length
          · obtain ⟨id, hid⟩ : ∃ id, (gi to_)[j]? = some id := ⟨_, List.getElem?_eq_getElem hjl⟩
            obtain ⟨pg, pc, hpe, -, hpc⟩ := (hR8.later hbi).cells hid
            injection hpe with e1 e2 e3
            subst e1
            subst e3
            have hjz : (j : Int) < ((gi to_).length : Int) := by omega
            have hj60 : (j : Int) < 60 := by omega
            have hj0 : (0 : Int) ≤ (j : Int) := by omega
            have hidb := hIDS to_ id (List.mem_of_getElem? hid)
            have hmay : Ip.mayP 10 to_ 9 0 id 0 false (⟨#[]⟩ : ByteArray).size (⟨#[]⟩ : ByteArray).size = true := Ip.mayP_t (by unfold Ip.mayQ; refine ⟨by omega, by omega, by omega, by omega, by omega, by omega, by decide, by decide, (fun h => by cases h), by decide, by decide⟩)
            have hrg : wr.rangeAt pg (j * 10) [.int .i64 10, .int .i64 to_, .int .i64 9, .int .i64 0, .int .i64 id, .int .i64 0, .bool false, .bool false, .string ⟨#[]⟩, .string ⟨#[]⟩] := fun j u hu => hpc j u hu
            obtain ⟨wg, woff, wc, hwe, hwc⟩ := (hS9.hI to_).cell hid
            have hone : (#[.int .i64 10, .int .i64 to_, .int .i64 9, .int .i64 0, .int .i64 id, .int .i64 0, .bool false, .bool false, .string ⟨#[]⟩, .string ⟨#[]⟩] : Array Value).all (·.oneCell') = true := by simp [Value.oneCell']
            go_upto_region 43 with (first
              | (refine wpList_load_mid rfl 29 _ rfl pg (j * 10) (by first | rfl | simp) _ _ hrg Try.underlying29 rfl (by kernel_rfl) ?_)
              | (refine wpList_store_new rfl 29 _ _ rfl wr _ #[.int .i64 10, .int .i64 to_, .int .i64 9, .int .i64 0, .int .i64 id, .int .i64 0, .bool false, .bool false, .string ⟨#[]⟩, .string ⟨#[]⟩] _ rfl rfl rfl (by kernel_rfl) hone ?_; intro w9 hBx q9)
              | go_in)
            have hWl9 := hWl.later q9
            have hwc9 := later q9 hwc
            have hlW : (Instr.lookup 27 (.map (some (K + 1))) (.int .i64 to_) false).run Try.prog w9.drew = .ok (.slice (some ⟨wg, woff, none⟩) (gi to_).length wc) w9.drew := by
              have h := VM.look (w := w9.drew) (t := 27) (k := to_) hWl9 Try.underlying27 zeroS hwk
              rw [hwl, hwe] at h
              exact h
            have hbi9 := bt hbi q9
            obtain ⟨Bx, hBxe⟩ : ∃ x, x = wr.heap.size := ⟨_, rfl⟩
            rw [← hBxe] at hBx
            rw [← hBxe]
            clear hBxe hrg hone hpc q9 hwc hWl hS9
            obtain ⟨t0, t1, t2, t3, t4, t5, t6, t7, t8, t9⟩ := hBx.ten
            have hlk : ∀ W, Below w9.heap.size w9 W → (Instr.lookup 27 (.map (some (K + 1))) (.int .i64 to_) false).run Try.prog W = .ok (.slice (some ⟨wg, woff, none⟩) (gi to_).length wc) W := fun W hW => by
              have h := VM.look (w := W) (t := 27) (k := to_) (hWl9.later hW) Try.underlying27 zeroS hwk
              rw [hwl, hwe] at h
              exact h
            have hkeep : ∀ W x, Below W.heap.size W x → (Below w9.heap.size w9 W ∧ (Instr.lookup 27 (.map (some (K + 1))) (.int .i64 to_) false).run Try.prog W = .ok (.slice (some ⟨wg, woff, none⟩) (gi to_).length wc) W ∧ W.cell? ⟨Bx, 0, none⟩ = some (.int .i64 10) ∧ W.cell? ⟨Bx, 1, none⟩ = some (.int .i64 to_) ∧ W.cell? ⟨Bx, 2, none⟩ = some (.int .i64 9) ∧ W.cell? ⟨Bx, 3, none⟩ = some (.int .i64 0) ∧ W.cell? ⟨Bx, 4, none⟩ = some (.int .i64 id) ∧ W.cell? ⟨Bx, 5, none⟩ = some (.int .i64 0) ∧ W.cell? ⟨Bx, 6, none⟩ = some (.bool false) ∧ W.cell? ⟨Bx, 7, none⟩ = some (.bool false) ∧ W.cell? ⟨Bx, 8, none⟩ = some (.string ⟨#[]⟩) ∧ W.cell? ⟨Bx, 9, none⟩ = some (.string ⟨#[]⟩) ∧ W.cell? ⟨wg, woff + j, none⟩ = some (.int .i64 id)) → (Below w9.heap.size w9 x ∧ (Instr.lookup 27 (.map (some (K + 1))) (.int .i64 to_) false).run Try.prog x = .ok (.slice (some ⟨wg, woff, none⟩) (gi to_).length wc) x ∧ x.cell? ⟨Bx, 0, none⟩ = some (.int .i64 10) ∧ x.cell? ⟨Bx, 1, none⟩ = some (.int .i64 to_) ∧ x.cell? ⟨Bx, 2, none⟩ = some (.int .i64 9) ∧ x.cell? ⟨Bx, 3, none⟩ = some (.int .i64 0) ∧ x.cell? ⟨Bx, 4, none⟩ = some (.int .i64 id) ∧ x.cell? ⟨Bx, 5, none⟩ = some (.int .i64 0) ∧ x.cell? ⟨Bx, 6, none⟩ = some (.bool false) ∧ x.cell? ⟨Bx, 7, none⟩ = some (.bool false) ∧ x.cell? ⟨Bx, 8, none⟩ = some (.string ⟨#[]⟩) ∧ x.cell? ⟨Bx, 9, none⟩ = some (.string ⟨#[]⟩) ∧ x.cell? ⟨wg, woff + j, none⟩ = some (.int .i64 id)) := fun W x hb h => ⟨bt h.1 hb, hlk x (bt h.1 hb), later hb h.2.2.1, later hb h.2.2.2.1, later hb h.2.2.2.2.1, later hb h.2.2.2.2.2.1, later hb h.2.2.2.2.2.2.1, later hb h.2.2.2.2.2.2.2.1, later hb h.2.2.2.2.2.2.2.2.1, later hb h.2.2.2.2.2.2.2.2.2.1, later hb h.2.2.2.2.2.2.2.2.2.2.1, later hb h.2.2.2.2.2.2.2.2.2.2.2.1, later hb h.2.2.2.2.2.2.2.2.2.2.2.2⟩
            have hS0 : (Below w9.heap.size w9 w9 ∧ (Instr.lookup 27 (.map (some (K + 1))) (.int .i64 to_) false).run Try.prog w9 = .ok (.slice (some ⟨wg, woff, none⟩) (gi to_).length wc) w9 ∧ w9.cell? ⟨Bx, 0, none⟩ = some (.int .i64 10) ∧ w9.cell? ⟨Bx, 1, none⟩ = some (.int .i64 to_) ∧ w9.cell? ⟨Bx, 2, none⟩ = some (.int .i64 9) ∧ w9.cell? ⟨Bx, 3, none⟩ = some (.int .i64 0) ∧ w9.cell? ⟨Bx, 4, none⟩ = some (.int .i64 id) ∧ w9.cell? ⟨Bx, 5, none⟩ = some (.int .i64 0) ∧ w9.cell? ⟨Bx, 6, none⟩ = some (.bool false) ∧ w9.cell? ⟨Bx, 7, none⟩ = some (.bool false) ∧ w9.cell? ⟨Bx, 8, none⟩ = some (.string ⟨#[]⟩) ∧ w9.cell? ⟨Bx, 9, none⟩ = some (.string ⟨#[]⟩) ∧ w9.cell? ⟨wg, woff + j, none⟩ = some (.int .i64 id)) := ⟨Below.refl _ _, hlk w9 (Below.refl _ _), t0, t1, t2, t3, t4, t5, t6, t7, t8, t9, hwc9⟩
            clear hlW hWl9 hwl hwe hlk t0 t1 t2 t3 t4 t5 t6 t7 t8 t9 hwc9
            go_region_held3 (fun W => (Below w9.heap.size w9 W ∧ (Instr.lookup 27 (.map (some (K + 1))) (.int .i64 to_) false).run Try.prog W = .ok (.slice (some ⟨wg, woff, none⟩) (gi to_).length wc) W ∧ W.cell? ⟨Bx, 0, none⟩ = some (.int .i64 10) ∧ W.cell? ⟨Bx, 1, none⟩ = some (.int .i64 to_) ∧ W.cell? ⟨Bx, 2, none⟩ = some (.int .i64 9) ∧ W.cell? ⟨Bx, 3, none⟩ = some (.int .i64 0) ∧ W.cell? ⟨Bx, 4, none⟩ = some (.int .i64 id) ∧ W.cell? ⟨Bx, 5, none⟩ = some (.int .i64 0) ∧ W.cell? ⟨Bx, 6, none⟩ = some (.bool false) ∧ W.cell? ⟨Bx, 7, none⟩ = some (.bool false) ∧ W.cell? ⟨Bx, 8, none⟩ = some (.string ⟨#[]⟩) ∧ W.cell? ⟨Bx, 9, none⟩ = some (.string ⟨#[]⟩) ∧ W.cell? ⟨wg, woff + j, none⟩ = some (.int .i64 id))) (first | exact hS0 | assumption | (refine hkeep _ _ ?_ hS0; exact (Below.refl _ _).drew) | (refine hkeep _ _ hbq ?_; assumption) | (refine hkeep _ _ (Below.refl _ _).drew ?_; assumption)) (first | (go_at_call 11; refine (Ip.chk_t (dn := false) hmay _ (by decide) (by decide)).mono ?_; rintro e w10 ⟨rfl, hbq⟩))
            all_goals
              rename_i hq
              have hbf := bt hbi9 hq.1
              clear hBx hkeep hS0
              go_wp2
              go_roundw
              case rel =>
                first
                  | exact ⟨j + 1, by omega, (by first | trivial | (simp; done) | (simp; omega) | (congr 1; omega) | rfl), hbf⟩
                  | (repeat apply Exists.intro
                     refine ⟨⟨j + 1, by omega, ?_, hbf⟩, rfl⟩
                     first | rfl | (simp; done) | (congr 1; omega))
              case measure => simp [intOf]; omega
          · have hje : j = (gi to_).length := by omega
            subst hje
            have hll := hTW.len2 hWl.2 hwl
            have hb9 := bt hb8 hbi
            clear hS8 hR8 hbi hb8
            go_wp2_with (first
              | (at_mapUpdate; refine wpList_put_vm rfl _ _ _ rfl (K + 1) wl to_ (.slice none 0 0) hwk Try.underlying27 (by omega) rfl hWl rfl rfl ?_; intro w10 hV10 ht10)
              | go_in)
            have hS10 := OW.putW KCH hS9 hWl hwl (pt := to_) (v := (.slice none 0 0)) (zs := []) (Turn.refl _) (OI.nil _ _) (fun y hy => by simp [Value.ownBlock] at hy) hV10 ht10
            have hwi : (fun y => if y = to_ then [] else gi y) = delG gi to_ := rfl
            rw [hwi] at hS10
            have hb10 : Below w.heap.size w w10 := hb9.trans (ht10.below hb9.size (fun j hj he => by have := KCH.lt; have := KCH.low; omega))
            clear hS9 hWl hwl hV10
            go_wp2
            go_roundw
            case rel => exact ⟨k + 1, now', now', wt - (gi to_).length, gone + (gi to_).length, gk', ga', delG gi to_, _, _, by omega, by omega, (by first | trivial | (simp; done) | (simp; omega) | (congr 1; omega) | rfl), (by first | trivial | (simp; done) | (simp; omega) | (congr 1; omega) | rfl), (by first | trivial | (simp; done) | (simp; omega) | (congr 1; omega) | rfl), (by first | trivial | (simp; done) | (simp; omega) | (congr 1; omega) | rfl), hS10, hP5, hT5, (hTW.put1 (by omega)).put2 (by omega), hIDS.del, by omega, by omega, by omega, by omega, hb10⟩
            case measure => simp [intOf]; omega
    · as_aux_lemma =>
        have hs1 := hS.hs
        clear hAct a14
        go_wp2_with fail
        refine (tick_once KCH hS hP now' (by omega)).mono ?_
        rintro e w5 ⟨hb5, u, v, L, ga', gi', rfl, hX5, hgi, hLk, hLw, hS5, hP5⟩
        replace hb := hb.trans hb5
        obtain ⟨va, vc, rfl⟩ := hX5.shape
        have HGI : Hid (∀ y, gi y = sub L y ++ gi' y) := hgi
        have HLK : Hid (∀ e ∈ L, 11 ≤ e.1 ∧ e.1 < 15) := hLk
        clear hb5 hS hgi hLk
        go_wp2
        go_loopw [77] (fun i wi => ∃ (j : Nat) (wf' : Int → Option Value) (wi' : Int → List Int), j ≤ L.length ∧ i = .int .i64 (j : Int) ∧ (OW wi C M A g c K (K + 1) (K + 2) now' (wt - L.length) gk ga' gi' wi' tf wf') ∧ (∀ y, wi' y = sub (L.drop j) y ++ gi' y) ∧ PX wi w1.heap.size (.slice va L.length vc) L ∧ TW tf wf' ∧ Below w.heap.size w wi) (fun i _ => L.length - (intOf i).toNat)
        case atStart => exact ⟨0, wf, gi, Nat.zero_le _, rfl, hS5, fun y => by rw [List.drop_zero]; exact HGI.out y, hX5, hTW, hb⟩
        case round =>
          clear hS5 hX5 hb
          obtain ⟨j, wf', wi', hj, rfl, hSi, hwi, hXi, hTWi, hbi⟩ := hrel
          by_cases hjl : j < L.length
          · obtain ⟨p, id, hpe⟩ : ∃ p id, L[j]? = some (p, id) := ⟨_, _, List.getElem?_eq_getElem hjl⟩
            obtain ⟨pg, pc, hve, -, hpc⟩ := hXi.cells hpe
            injection hve with e1 e2 e3
            subst e1
            subst e3
            have hpk := HLK.out _ (List.mem_of_getElem? hpe)
            dsimp only at hpk hpc
            have hjz : (j : Int) < (L.length : Int) := by omega
            have hj60 : (j : Int) < 60 := by omega
            have hj0 : (0 : Int) ≤ (j : Int) := by omega
            have hdr : L.drop j = (p, id) :: L.drop (j + 1) := by
              obtain ⟨h1, h2⟩ := List.getElem?_eq_some_iff.1 hpe
              rw [← h2]
              exact List.drop_eq_getElem_cons h1
            obtain ⟨r, hr⟩ : ∃ r, r = sub (L.drop (j + 1)) p ++ gi' p := ⟨_, rfl⟩
            have hwp : wi' p = id :: r := by rw [hwi, hdr, sub_cons, hr]; simp
            have hwo : ∀ y, (if y = p then r else wi' y) = sub (L.drop (j + 1)) y ++ gi' y := fun y => by
              by_cases e : y = p
              · rw [if_pos e, e, hr]
              · rw [if_neg e, hwi, hdr, sub_cons, if_neg e]
            have hrl : ((r.length : Nat) : Int) ≤ 1000 := by
              have h1 : (sub (L.drop (j + 1)) p).length ≤ L.length := by
                unfold sub
                rw [List.length_map]
                exact Nat.le_trans (List.length_filter_le _ _) (by rw [List.length_drop]; omega)
              have h2 := hP5.len p
              rw [hr, List.length_append]
              omega
            clear hr hdr hpe
            have HWO : Hid (∀ y, (if y = p then r else wi' y) = sub (L.drop (j + 1)) y ++ gi' y) := hwo
            clear hwo
            have hwkp : (Lit.int .i64 p).wf = true := WalkArith.wf_i64 (by omega)
            have hrg : wr.rangeAt pg (j * 10) [.int .i64 10, .int .i64 p, .int .i64 9, .int .i64 0, .int .i64 id, .int .i64 0, .bool false, .bool false, .string ⟨#[]⟩, .string ⟨#[]⟩] := fun j u hu => hpc j u hu
            have hone : (#[.int .i64 10, .int .i64 p, .int .i64 9, .int .i64 0, .int .i64 id, .int .i64 0, .bool false, .bool false, .string ⟨#[]⟩, .string ⟨#[]⟩] : Array Value).all (·.oneCell') = true := by simp [Value.oneCell']
            go_upto_region 20 with (first
              | (refine wpList_load_mid rfl 29 _ rfl pg (j * 10) (by first | rfl | simp) _ _ hrg Try.underlying29 rfl (by kernel_rfl) ?_)
              | (refine wpList_store_new rfl 29 _ _ rfl wr _ #[.int .i64 10, .int .i64 p, .int .i64 9, .int .i64 0, .int .i64 id, .int .i64 0, .bool false, .bool false, .string ⟨#[]⟩, .string ⟨#[]⟩] _ rfl rfl rfl (by kernel_rfl) hone ?_; intro w7 hBx q7)
              | go_in)
            have hS7 := hSi.later q7
            have hX7 := hXi.later q7
            have hb7 := bt hbi q7
            obtain ⟨Bx, hBxe⟩ : ∃ x, x = wr.heap.size := ⟨_, rfl⟩
            rw [← hBxe] at hBx
            rw [← hBxe]
            clear hBxe hrg hone hpc q7 hSi hXi hbi
            have b1 : w7.cell? ⟨Bx, 1, none⟩ = some (.int .i64 p) := (hBx.2 1 _ rfl).1
            have b4 : w7.cell? ⟨Bx, 4, none⟩ = some (.int .i64 id) := (hBx.2 4 _ rfl).1
            obtain ⟨wl, hWl, hwl⟩ := hS7.hW
            have hI := hS7.hI p
            rw [hwp] at hI
            obtain ⟨wg, woff, wc, v', hve, hv', hown, hIc⟩ := hI.cut
            have hcell : w7.cell? ⟨wg, woff, none⟩ = some (.int .i64 id) := by
              obtain ⟨g2, o2, c2, h1, h2⟩ := hI.cell (i := 0) (z := id) rfl
              rw [hve] at h1
              injection h1 with h1 h3 h4
              injection h1 with h1
              injection h1 with h5 h6 h7
              subst h5
              subst h6
              exact h2
            have hlW : ∀ nn, (Instr.lookup 27 (.map (some (K + 1))) (.int .i64 p) false).run Try.prog (w7.drewN nn) = .ok (.slice (some ⟨wg, woff, none⟩) (r.length + 1) wc) (w7.drewN nn) := fun nn => by
              have h := VM.look (w := w7.drewN nn) (t := 27) (k := p) hWl Try.underlying27 zeroS hwkp
              rw [hwl, hve] at h
              exact h
            go_quiet (fail)
            have qd : Below w7.heap.size w7 (w7.drewN nq) := below_drewN (Below.refl _ _) nq
            have hS8 := hS7.later qd
            have hX8 := hX7.later qd
            have hb8 := bt hb7 qd
            have hWl8 := hWl.later qd
            have hIc8 := hIc.later qd
            have b18 := later qd b1
            have hlW8 := hlW nq
            have hll := hTWi.len2 hWl.2 hwl
            clear hS7 hX7 hb7 hWl hIc hI b1 b4 hBx hcell hlW
            go_upto_region 22 with fail
            generalize w7.drewN nq = w8 at *
            by_cases hc1 : wc = 1
            · have hv1 : v' = .slice (some ⟨wg, woff, none⟩) r.length 0 := by rw [hv', hc1]; simp [sliced]
              subst hc1
              obtain ⟨W3, hr3, hV9, ht9⟩ := VM.put (w := w8.drew) (t := 27) (e := 38) (k := p) hWl8 Try.underlying27 (by omega) hwkp (.slice (some ⟨wg, woff, none⟩) r.length 0)
              replace ht9 := ht9.undrew
              rw [← hv1] at hV9
              have hS9 := OW.putW KCH hS8 hWl8 hwl (pt := p) (v := v') (zs := r) (Turn.refl _) hIc8 (fun y hy => Or.inl (by rw [← hown]; exact hy)) hV9 ht9
              have hX9 := hX8.turn ht9 (fun b hb he => by have := hX8.ge b hb; omega)
              have hb9 : Below w.heap.size w W3 := hb8.trans (ht9.below hb8.size (fun j hj he => by have := KCH.lt; have := KCH.low; omega))
              have hlWd : (Instr.lookup 27 (.map (some (K + 1))) (.int .i64 p) false).run Try.prog w8.drew = .ok (.slice (some ⟨wg, woff, none⟩) (r.length + 1) 1) w8.drew := by
                have h := VM.look (w := w8.drew) (t := 27) (k := p) hWl8 Try.underlying27 zeroS hwkp
                rw [hwl, hve] at h
                exact h
              clear hS8 hX8 hWl8 hIc8 hlW8 hV9 hv1 hv' hve hown hwl
              go_region
              go_wp2
              go_roundw
              case rel => exact ⟨j + 1, _, _, by omega, (by first | trivial | (simp; done) | (simp; omega) | (congr 1; omega) | rfl), hS9, HWO.out, hX9, hTWi.put2 (by omega), hb9⟩
              case measure => simp [intOf]; omega
            · have hv1 : v' = .slice (some ⟨wg, woff + 1, none⟩) r.length (wc - 1) := by rw [hv']; unfold sliced; rw [if_neg hc1]; simp [Addr.add_mid]
              obtain ⟨W3, hr3, hV9, ht9⟩ := VM.put (w := w8.drew) (t := 27) (e := 38) (k := p) hWl8 Try.underlying27 (by omega) hwkp (.slice (some ⟨wg, woff + 1, none⟩) r.length (wc - 1))
              replace ht9 := ht9.undrew
              rw [← hv1] at hV9
              have hS9 := OW.putW KCH hS8 hWl8 hwl (pt := p) (v := v') (zs := r) (Turn.refl _) hIc8 (fun y hy => Or.inl (by rw [← hown]; exact hy)) hV9 ht9
              have hX9 := hX8.turn ht9 (fun b hb he => by have := hX8.ge b hb; omega)
              have hb9 : Below w.heap.size w W3 := hb8.trans (ht9.below hb8.size (fun j hj he => by have := KCH.lt; have := KCH.low; omega))
              have hlWd : (Instr.lookup 27 (.map (some (K + 1))) (.int .i64 p) false).run Try.prog w8.drew = .ok (.slice (some ⟨wg, woff, none⟩) (r.length + 1) wc) w8.drew := by
                have h := VM.look (w := w8.drew) (t := 27) (k := p) hWl8 Try.underlying27 zeroS hwkp
                rw [hwl, hve] at h
                exact h
              clear hS8 hX8 hWl8 hIc8 hlW8 hV9 hv1 hv' hve hown hwl
              go_region
              go_wp2
              go_roundw
              case rel => exact ⟨j + 1, _, _, by omega, (by first | trivial | (simp; done) | (simp; omega) | (congr 1; omega) | rfl), hS9, HWO.out, hX9, hTWi.put2 (by omega), hb9⟩
              case measure => simp [intOf]; omega
          · have hje : j = L.length := by omega
            subst hje
            have hwe : wi' = gi' := by
              funext y
              rw [hwi, List.drop_length]
              rfl
            subst hwe
            clear hXi
            go_wp2
            go_roundw
            case rel => exact ⟨k + 1, now', now', wt - L.length, gone + L.length, gk, ga', _, tf, _, by omega, by omega, (by first | trivial | (simp; done) | (simp; omega) | (congr 1; omega) | rfl), (by first | trivial | (simp; done) | (simp; omega) | (congr 1; omega) | rfl), (by first | trivial | (simp; done) | (simp; omega) | (congr 1; omega) | rfl), (by first | trivial | (simp; done) | (simp; omega) | (congr 1; omega) | rfl), hSi, hP5, fun y m t hy => (hT y m t hy).imp id (fun h => by omega), hTWi, (fun y z h => hIDS y z (by rw [HGI.out y]; exact List.mem_append_right _ h)), by omega, by omega, by omega, by omega, hbi⟩
            case measure => simp [intOf]; omega
end Go.Proofs.Ytjldcillackhdaa
