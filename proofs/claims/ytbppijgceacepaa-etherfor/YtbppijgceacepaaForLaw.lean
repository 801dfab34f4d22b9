/- Proved: for all frames, lists of numbers and places a frame to everyone is for whoever there is, and one to any other address for just those that have it; no condition. -/
import Derived.Test.YtbppijgceacepaaRows
import Derived.Test.YtbppijgceacepaaSwaps
import Derived.Deep.RegionHeld3
import Derived.BigRegion
import Derived.WalkKit
import Derived.ProofKit
import Derived.OpenShut
import Derived.ShutString
import Derived.ChangeOld
import Derived.Below
import Derived.Carry
import Derived.SizedLaws
import Derived.Deep.Fields
import Derived.ChangeSlices
import Derived.Laws.AppendOwnNone
import Derived.Laws.AppendOwn
namespace Go.Proofs.Ytbppijgceacepaa.etherFor
open Go.ChangeShapes Go.WideShapes Go.ChangeAt Go.RowKit
open Go.ChangeMaps (open_string)
set_option linter.unusedVariables false

theorem own : ownKnob Try.prog.godebug = none := by kernel_rfl
theorem laidOut : laidOutB Try.prog = true := by kernel_rfl

theorem open_fields {H : Type} {enc : TypeId × Value → H} {P : Program} {w : World} {base : Nat} {spare : Nat → Bool} {held : Bool} {r : Reach} {b0 : Nat} {t : TypeId} {fs : Array Field} {v : Value} {d : DataW H} {p : List MemPlace} (hs : P.underlying t = some (.struct fs)) (hone : Go.Deep.oneCellFields P fs = true) (hC : P.cellsOf t = fs.size)
    (hv : Value.okWide P w r b0 t v) (h : DataW.Trod enc P w base spare held t v d p) :
    ∃ cs : Array Value, v = .agg cs ∧ cs.size = fs.size ∧ ∀ (i : Nat) (f : Field), fs[i]? = some f → ∃ n x, DataW.trod enc P w base spare held n f.type ((cs.toList.drop i).take 1) = some x := by
  obtain ⟨cs, rfl, hsz⟩ := okWide_struct hs hv
  obtain ⟨fuel, hf⟩ := h
  obtain ⟨xs, n, _, hx, hl, hlen, hfs⟩ := DataW.trod_struct hs hf
  refine ⟨cs, rfl, hsz.trans hC, fun i f hi => ?_⟩
  obtain ⟨o1, k1⟩ := Go.Deep.hone_of hone i f hi
  have := hfs i f hi
  have hlt : i < xs.length := by rw [hlen]; exact (Array.getElem?_eq_some_iff.1 hi).1
  rw [o1, k1, List.getElem?_eq_getElem hlt] at this
  exact ⟨n, _, by simpa [Value.cells] using this⟩

theorem cells23 : Try.prog.cellsOf 23 = 4 := by kernel_rfl
theorem open23 {H : Type} {enc : TypeId × Value → H} {w : World} {base : Nat} {spare : Nat → Bool} {held : Bool} {r : Reach} {b0 : Nat} {v : Value} {d : DataW H} {p : List MemPlace} (hv : Value.okWide Try.prog w r b0 23 v) (h : DataW.Trod enc Try.prog w base spare held 23 v d p) :
    ∃ (f0 : Int) (f1 : Int) (f2 : Int) (f3 : ByteArray), v = .agg #[.int .i64 f0, .int .i64 f1, .int .i64 f2, .string f3] ∧ (Lit.int .i64 f0).wf = true ∧ (Lit.int .i64 f1).wf = true ∧ (Lit.int .i64 f2).wf = true ∧ f3.size ≤ maxLen := by
  obtain ⟨⟨l⟩, rfl, hz, hf⟩ := open_fields Try.underlying23 (by kernel_rfl) cells23 hv h
  have hz' : l.length = 4 := by simpa using hz
  match l, hz' with
  | [c0, c1, c2, c3], _ =>
    obtain ⟨n0, x0, t0⟩ := hf 0 _ rfl
    obtain ⟨f0, q0, -, e0⟩ := DataW.trod_int Try.underlying3 t0
    have p0 : c0 = .int .i64 f0 := by simpa using q0
    obtain ⟨n1, x1, t1⟩ := hf 1 _ rfl
    obtain ⟨f1, q1, -, e1⟩ := DataW.trod_int Try.underlying3 t1
    have p1 : c1 = .int .i64 f1 := by simpa using q1
    obtain ⟨n2, x2, t2⟩ := hf 2 _ rfl
    obtain ⟨f2, q2, -, e2⟩ := DataW.trod_int Try.underlying3 t2
    have p2 : c2 = .int .i64 f2 := by simpa using q2
    obtain ⟨n3, x3, t3⟩ := hf 3 _ rfl
    obtain ⟨f3, q3, -, e3⟩ := DataW.trod_string Try.underlying9 t3
    have p3 : c3 = .string f3 := by simpa using q3
    subst p0 p1 p2 p3
    exact ⟨f0, f1, f2, f3, rfl, e0, e1, e2, e3⟩

/-- What the walk is told of a list of numbers that came in: it is nil, or it leads to a row of cells that hold the numbers. -/
def IsInts (w : World) (a : Option Addr) (cap : Nat) (zs : List Int) : Prop :=
  (a = none ∧ cap = 0 ∧ zs = []) ∨ ∃ x, a = some x ∧ (∀ i, i < zs.length → w.cell? (x.add i) = some (.int .i64 (zs.getD i 0))) ∧ ∀ z ∈ zs, (Lit.int .i64 z).wf = true
theorem bytes3 : Try.prog.bytesOf 3 = 8 := by kernel_rfl

-- WALK
theorem row_of {w : World} {a : Option Addr} {cap : Nat} {zs : List Int} (h : IsInts w a cap zs) : Row w a zs ∧ (a = none → zs = []) := by
  rcases h with ⟨rfl, rfl, rfl⟩ | ⟨x, rfl, hc, _⟩
  · exact ⟨Or.inl rfl, fun _ => rfl⟩
  · refine ⟨?_, fun q => by cases q⟩
    cases zs with
    | nil => exact Or.inl rfl
    | cons z l =>
      right
      obtain ⟨b, off, spot⟩ := x
      have hspot : spot = none := by
        have := World.cell?_spot (hc 0 (by simp))
        simpa [Addr.add] using this
      subst hspot
      exact ⟨b, off, rfl, fun j hj => by have := hc j hj; rwa [Addr.add_lit] at this⟩

theorem walk_no (t f k : Int) (d : ByteArray) (hd : d.size ≤ maxLen) (a : Option Addr) (cap : Nat) (zs : List Int) (at' : Int) (w : World) (h : mayB t f k d.size = false) :
    Calls Try.prog 6 #[.agg #[.int .i64 t, .int .i64 f, .int .i64 k, .string d], .slice a zs.length cap, .int .i64 at'] w fun e w' => e = .returned (.bool true) ∧ Below w.heap.size w w' := by
  have hA := at_box w (.int .i64 t) (.int .i64 f) (.int .i64 k) (.string d) 23
  have hl := bel1 w (.cells #[.int .i64 t, .int .i64 f, .int .i64 k, .string d] 23)
  have hk := codeE_f
  go_enter Try.func6, Try.ntmps6
  go_wp2_with fail
  refine (works_any _).mono ?_
  rintro e u1 ⟨rfl, l1⟩
  have hl := bt hl l1
  obtain ⟨⟨a0, a1, a2, a3⟩, -, -⟩ := hA.later l1
  clear l1 hA
  go_wp2_with fail
  refine (check_any _ _ _ _ _ hd).mono ?_
  rw [h]
  rintro e u2 ⟨rfl, l2⟩
  go_wp2
  go_ret
  exact ⟨rfl, bt hl l2⟩

theorem swap_below {B g : Nat} {a u : World} (h : Below B a u) (hg : B ≤ g) (i j : Nat) (x y : Value) : Below B a ((u.setCell ⟨g, i, none⟩ x).setCell ⟨g, j, none⟩ y).drew := ((h.setCell hg _).setCell hg _).drew
theorem for_mine {t f k : Int} {d : ByteArray} {a : Option Addr} {cap : Nat} {zs : List Int} {w : World} {T E : Bool} (hd : d.size ≤ maxLen) (hbig : zs.length ≤ 9223372036854775807) (hm : mayB t f k d.size = true) (hT : hasB t zs = T) (hE : (t == 281474976710655) = E) (hr : Row w a zs) :
    Calls Try.prog 12 #[.agg #[.int .i64 t, .int .i64 f, .int .i64 k, .string d], .slice a zs.length cap] w fun e w' => e = .returned (.bool (T || E)) ∧ Below w.heap.size w w' := by
  have := for_any t f k d a cap zs w hd hbig hr
  unfold forB at this
  rw [hm, hT, hE] at this
  exact this
theorem for_own {t f k : Int} {d : ByteArray} {g cap : Nat} {zs : List Int} {w : World} {j : Nat} (hd : d.size ≤ maxLen) (hbig : zs.length + 1 ≤ 9223372036854775807) (hm : mayB t f k d.size = true) (hj : j ≤ zs.length) (hr : Row w (some ⟨g, 0, none⟩) (swapL zs t j)) :
    Calls Try.prog 12 #[.agg #[.int .i64 t, .int .i64 f, .int .i64 k, .string d], .slice (some ⟨g, 0, none⟩) (zs.length + 1) cap] w fun e w' => e = .returned (.bool true) ∧ Below w.heap.size w w' := by
  have := for_any t f k d (some ⟨g, 0, none⟩) cap (swapL zs t j) w hd (by rw [swapL_len]; exact hbig) hr
  unfold forB at this
  rw [hm, swapL_has zs t j hj, swapL_len] at this
  exact this

theorem grp_all : grpB 281474976710655 = true := by decide +kernel

set_option maxHeartbeats 4000000 in
theorem walk_some (t f kk : Int) (d : ByteArray) (hd : d.size ≤ maxLen) (x : Addr) (cap : Nat) (zs : List Int) (at' : Int) (w : World) (h : mayB t f kk d.size = true) (hr : Row w (some x) zs) (hz : zs.length * 8 ≤ 140737488351232) (h0 : 0 < zs.length) (hm : ¬ t = 281474976710655) :
    Calls Try.prog 6 #[.agg #[.int .i64 t, .int .i64 f, .int .i64 kk, .string d], .slice (some x) zs.length cap, .int .i64 at'] w fun e w' => e = .returned (.bool true) ∧ Below w.heap.size w w' := by
  have hA := at_box w (.int .i64 t) (.int .i64 f) (.int .i64 kk) (.string d) 23
  have hl := bel1 w (.cells #[.int .i64 t, .int .i64 f, .int .i64 kk, .string d] 23)
  have hk := codeE_t
  have hm1 : macB t = true := macB_t (may_parts h).1
  have hkb : codeB true = 0 := rfl
  have hme : (t == 281474976710655) = false := by simpa using hm
  go_enter Try.func6, Try.ntmps6
  go_wp2_with fail
  refine (works_any _).mono ?_
  rintro e u1 ⟨rfl, l1⟩
  have hl := bt hl l1
  have hA := hA.later l1
  clear l1
  have hA' := hA
  obtain ⟨⟨a0, a1, a2, a3⟩, -, -⟩ := hA'
  go_wp2_with fail
  refine (check_any _ _ _ _ _ hd).mono ?_
  rw [h]
  rintro e u2 ⟨rfl, l2⟩
  have hl := bt hl l2
  have hA := hA.later l2
  have hr := hr.later hl
  clear l2 a0 a1 a2 a3
  have HM : Hid (mayB t f kk d.size = true) := h
  clear h
  have hA' := hA
  obtain ⟨⟨a0, a1, a2, a3⟩, -, hlt'⟩ := hA'
  go_wp2_with fail
  refine (pgroup_any _ _).mono ?_
  rw [hm1]
  rintro e u3 ⟨rfl, rfl⟩
  go_wp2
  have hbig : zs.length ≤ 9223372036854775807 := by omega
  have HR : Hid (Row u3 (some x) zs) := hr
  have hr' := hr
  clear hr
  rcases hr' with q | ⟨b, off, hx, hc⟩
  · rw [q] at h0; cases h0
  cases hx
  have HC : Hid (∀ j, j < zs.length → u3.cell? ⟨b, off + j, none⟩ = some (.int .i64 (zs.getD j 0))) := hc
  clear hc
  go_loop [10, 40] (fun y i => ∃ k : Nat, k ≤ zs.length ∧ i = .int .i64 k ∧ y = .bool (hasB t (zs.take k))) (fun _ i => zs.length - (intOf i).toNat)
  case atStart => exact ⟨0, Nat.zero_le _, rfl, by rw [List.take_zero]; rfl⟩
  case round =>
    obtain ⟨k, hk, rfl, rfl⟩ := hrel
    by_cases hlt : k < zs.length
    · have hcell := HC.out k hlt
      have HS : Hid (hasB t (zs.take (k + 1)) = (hasB t (zs.take k) || t == zs.getD k 0)) := hasB_step t zs k hlt
      have HE : Hid ((zs.getD k 0 == t) = (t == zs.getD k 0)) := by show _ = _; exact Bool.beq_comm
      generalize zs.getD k 0 = z at *
      rcases Bool.eq_false_or_eq_true (hasB t (zs.take k)) with q | q
      · rw [q]
        have HQ : Hid (hasB t (zs.take k) = true) := q
        clear q
        go_wp2
        go_round
        case rel => exact ⟨k + 1, by omega, by go_num, by rw [HS.out, HQ.out]; rfl⟩
        case measure => simp [intOf]; omega
      · rw [q]
        have HQ : Hid (hasB t (zs.take k) = false) := q
        clear q
        go_wp2
        go_round
        case rel => exact ⟨k + 1, by omega, by go_num, by rw [HS.out, HQ.out, ← HE.out]; rfl⟩
        case measure => simp [intOf]; omega
    · have hk' : k = zs.length := by omega
      subst hk'
      rw [List.take_length]
      generalize hT : hasB t zs = T
      have HT : Hid (hasB t zs = T) := hT
      clear hT
      obtain ⟨i0, hi, hz0, hz1, hz2⟩ := info_parts Try.info3
      have HI : Hid (Try.prog.info? 3 = some i0 ∧ i0.zero = some (.int .i64 0) ∧ i0.size = 1 ∧ i0.bytes = 8) := ⟨hi, hz0, hz1, hz2⟩
      clear hi hz0 hz1 hz2
      have HA : Hid (At4 u3 w.heap.size (.int .i64 t) (.int .i64 f) (.int .i64 kk) (.string d)) := hA
      clear a1 a2 a3 hA
      have HD : Hid (d.size ≤ maxLen) := hd
      have HL : Hid (Below w.heap.size w u3) := hl
      clear hd hl
      go_wp2
      go_region_held3 (fun W => Below u3.heap.size u3 W ∧ W.cell? ⟨w.heap.size, 0, none⟩ = some (.int .i64 t))
        (first | exact ⟨(Below.refl _ _).drew, a0⟩ | (refine held_alloc_drew ?_ _; assumption) | (refine held_alloc ?_ _; assumption) | (refine held_grown ?_ hlt' hgrow2 hrow2; assumption) | (refine held_grown ?_ hlt' hgrow (fun k e => by cases e); assumption))
        (first
          | (refine step_append_grows (by rfl) _ _ _ (by rfl) 3 i0 (.int .i64 0) 1 8 Try.underlying24 HI.out.1 HI.out.2.1 HI.out.2.2.1 HI.out.2.2.2 rfl (by decide) (some _) 0 0 [] (by rfl) (fun q => by cases q) rfl (fun _ _ j y hy => by simp at hy) ⟨b, off, none⟩ zs.length cap (zs.map (Value.int .i64)) (by rfl) (by simp) (news_held (by assumption) HR.out) (ints_one zs) (by omega) (by unfold maxLen; omega) (by omega) ?_; intro v1 w1 hown hgrow; obtain ⟨g1, cap1, rfl, hg1, hown1⟩ := own_low (by assumption) hown h0; have hgb := (Below.refl _ _).grown hgrow (Nat.le_refl _) (fun k e => by cases e))
          | (refine step_append_own (by rfl) _ _ _ (by rfl) u3.heap.size 3 i0 (.int .i64 0) 1 8 Try.underlying24 HI.out.1 HI.out.2.1 HI.out.2.2.1 HI.out.2.2.2 rfl (by decide) (.slice (some ⟨g1, 0, none⟩) zs.length cap1) zs.length (zs.map (Value.int .i64)) (by rfl) (by first | exact hown1 | exact hown1.alloc _) _ 1 1 [.int .i64 t] (by rfl) rfl (one_news (by first | (simp; done) | (refine later hgb ?_; simp))) (by simp [Value.oneCell']) (by unfold maxLen; omega) (by omega) (held_size (by assumption)) ?_; intro v2 w2 hown2 hgrow2 hne2; obtain ⟨g2, cap2, rfl, hg2, hc2, hm2⟩ := own_form hown2 (by omega); have hrow2 : ∀ k, (Value.slice (some ⟨g1, 0, none⟩) zs.length cap1).ownBlock = some k → u3.heap.size ≤ k := (fun k e => by simp [Value.ownBlock] at e; omega)))
      all_goals
        rename_i hq
        obtain ⟨hBq, b0⟩ := hq
        have HO : Hid (w2.ownsRow u3.heap.size 3 1 (.slice (some ⟨g2, 0, none⟩) (zs.length + 1) cap2) (zs.length + 1) (zs.map (Value.int .i64) ++ [.int .i64 t])) := hown2
        have hBl := bt HL.out hBq
        clear hown2 hgrow hgrow2 hgb hown hown1 hne2 hrow2 hg1 HI a0
        unfold maxLen at hm2
        go_wp2_with fail
        refine (amongW_any _ _ _ (by omega) (by omega)).mono ?_
        rintro e u ⟨rfl, rfl⟩
        go_wp2
        have j0 := Int.emod_nonneg at' (show ((zs.length : Int) + 1) ≠ 0 by omega)
        have j1 := Int.emod_lt_of_pos at' (show 0 < ((zs.length : Int) + 1) by omega)
        generalize at' % ((zs.length : Int) + 1) = J at *
        obtain ⟨j, rfl⟩ := Int.eq_ofNat_of_zero_le j0
        obtain ⟨y, hy, HF⟩ := own_at HO.out j (by omega)
        have hn := (own_last HO.out)
        have f1 := HO.out.frozenAt j
        have f2 := HO.out.frozenAt zs.length
        have hnl : ((zs.length : Int) + 1 - 1) = zs.length := by omega
        have hwr : IntKind.i64.wrap ((zs.length : Int) + 1 - 1) = zs.length := by rw [IntKind.wrap_i64]; omega
        have n1 : (zs.length : Int) < (zs.length : Int) + 1 := by omega
        have n0 : (0 : Int) ≤ (zs.length : Int) := by omega
        have HX : Hid (zs.length * 8 ≤ 140737488351232 ∧ 0 < zs.length ∧ zs.length ≤ 9223372036854775807) := ⟨hz, h0, hbig⟩
        by_cases hjn : j = zs.length
        · subst hjn
          have hyt : y = t := by rw [HF.out]; simp [List.getD]
          subst hyt
          clear hn
          go_region
          have hBv := swap_below hBq hg2 zs.length zs.length (.int .i64 y) (.int .i64 y)
          have hrv := swap_row HO.out HF
          have hrd : Row ((u.setCell ⟨g2, zs.length, none⟩ (.int .i64 y)).setCell ⟨g2, zs.length, none⟩ (.int .i64 y)).drew (some ⟨g2, 0, none⟩) (swapL zs y zs.length) := hrv
          generalize ((u.setCell ⟨g2, zs.length, none⟩ (.int .i64 y)).setCell ⟨g2, zs.length, none⟩ (.int .i64 y)).drew = V at *
          clear hrv b0 hy f1 f2 hwr hnl n1 n0
          have hAv := HA.out.later hBv
          have hAv' := hAv
          obtain ⟨⟨c0, c1, c2, c3⟩, -, -⟩ := hAv'
          go_wp2_with fail
          refine (for_mine HD.out HX.out.2.2 HM.out HT.out hme (HR.out.later hBv)).mono ?_
          rintro e V1 ⟨rfl, l1⟩
          clear c0 c1 c2 c3
          obtain ⟨⟨c0, c1, c2, c3⟩, -, -⟩ := hAv.later l1
          go_wp2_with fail
          refine (for_own HD.out (by have := HX.out.1; omega) HM.out (Nat.le_refl _) (hrd.later l1)).mono ?_
          rintro e V2 ⟨rfl, l2⟩
          go_wp2
          go_ret
          exact ⟨rfl, bt (bt (bt HL.out hBv) l1) l2⟩
        · have hjl : j < zs.length := by omega
          go_region
          have hBv := swap_below hBq hg2 j zs.length (.int .i64 t) (.int .i64 y)
          have hrv := swap_row HO.out HF
          have hrd : Row ((u.setCell ⟨g2, j, none⟩ (.int .i64 t)).setCell ⟨g2, zs.length, none⟩ (.int .i64 y)).drew (some ⟨g2, 0, none⟩) (swapL zs t j) := hrv
          generalize ((u.setCell ⟨g2, j, none⟩ (.int .i64 t)).setCell ⟨g2, zs.length, none⟩ (.int .i64 y)).drew = V at *
          clear hrv b0 hy f1 f2 hwr hnl n1 n0 hn
          have hAv := HA.out.later hBv
          have hAv' := hAv
          obtain ⟨⟨c0, c1, c2, c3⟩, -, -⟩ := hAv'
          go_wp2_with fail
          refine (for_mine HD.out HX.out.2.2 HM.out HT.out hme (HR.out.later hBv)).mono ?_
          rintro e V1 ⟨rfl, l1⟩
          clear c0 c1 c2 c3
          obtain ⟨⟨c0, c1, c2, c3⟩, -, -⟩ := hAv.later l1
          go_wp2_with fail
          refine (for_own HD.out (by have := HX.out.1; omega) HM.out (Nat.le_of_lt hjl) (hrd.later l1)).mono ?_
          rintro e V2 ⟨rfl, l2⟩
          go_wp2
          go_ret
          exact ⟨rfl, bt (bt (bt HL.out hBv) l1) l2⟩

set_option maxHeartbeats 4000000 in
theorem walk_some_all (t f kk : Int) (d : ByteArray) (hd : d.size ≤ maxLen) (x : Addr) (cap : Nat) (zs : List Int) (at' : Int) (w : World) (h : mayB t f kk d.size = true) (hr : Row w (some x) zs) (hz : zs.length * 8 ≤ 140737488351232) (h0 : 0 < zs.length) (hme : (t == 281474976710655) = true) (hgr : grpB t = true) :
    Calls Try.prog 6 #[.agg #[.int .i64 t, .int .i64 f, .int .i64 kk, .string d], .slice (some x) zs.length cap, .int .i64 at'] w fun e w' => e = .returned (.bool true) ∧ Below w.heap.size w w' := by
  have hA := at_box w (.int .i64 t) (.int .i64 f) (.int .i64 kk) (.string d) 23
  have hl := bel1 w (.cells #[.int .i64 t, .int .i64 f, .int .i64 kk, .string d] 23)
  have hk := codeE_t
  have hm1 : macB t = true := macB_t (may_parts h).1
  have hkb : codeB true = 0 := rfl
  go_enter Try.func6, Try.ntmps6
  go_wp2_with fail
  refine (works_any _).mono ?_
  rintro e u1 ⟨rfl, l1⟩
  have hl := bt hl l1
  have hA := hA.later l1
  clear l1
  have hA' := hA
  obtain ⟨⟨a0, a1, a2, a3⟩, -, -⟩ := hA'
  go_wp2_with fail
  refine (check_any _ _ _ _ _ hd).mono ?_
  rw [h]
  rintro e u2 ⟨rfl, l2⟩
  have hl := bt hl l2
  have hA := hA.later l2
  have hr := hr.later hl
  clear l2 a0 a1 a2 a3
  have HM : Hid (mayB t f kk d.size = true) := h
  clear h
  have hA' := hA
  obtain ⟨⟨a0, a1, a2, a3⟩, -, hlt'⟩ := hA'
  go_wp2_with fail
  refine (pgroup_any _ _).mono ?_
  rw [hm1]
  rintro e u3 ⟨rfl, rfl⟩
  go_wp2
  have hbig : zs.length ≤ 9223372036854775807 := by omega
  have HR : Hid (Row u3 (some x) zs) := hr
  have hr' := hr
  clear hr
  rcases hr' with q | ⟨b, off, hx, hc⟩
  · rw [q] at h0; cases h0
  cases hx
  have HC : Hid (∀ j, j < zs.length → u3.cell? ⟨b, off + j, none⟩ = some (.int .i64 (zs.getD j 0))) := hc
  clear hc
  go_loop [10, 40] (fun y i => ∃ k : Nat, k ≤ zs.length ∧ i = .int .i64 k ∧ y = .bool (hasB t (zs.take k))) (fun _ i => zs.length - (intOf i).toNat)
  case atStart => exact ⟨0, Nat.zero_le _, rfl, by rw [List.take_zero]; rfl⟩
  case round =>
    obtain ⟨k, hk, rfl, rfl⟩ := hrel
    by_cases hlt : k < zs.length
    · have hcell := HC.out k hlt
      have HS : Hid (hasB t (zs.take (k + 1)) = (hasB t (zs.take k) || t == zs.getD k 0)) := hasB_step t zs k hlt
      have HE : Hid ((zs.getD k 0 == t) = (t == zs.getD k 0)) := by show _ = _; exact Bool.beq_comm
      generalize zs.getD k 0 = z at *
      rcases Bool.eq_false_or_eq_true (hasB t (zs.take k)) with q | q
      · rw [q]
        have HQ : Hid (hasB t (zs.take k) = true) := q
        clear q
        go_wp2
        go_round
        case rel => exact ⟨k + 1, by omega, by go_num, by rw [HS.out, HQ.out]; rfl⟩
        case measure => simp [intOf]; omega
      · rw [q]
        have HQ : Hid (hasB t (zs.take k) = false) := q
        clear q
        go_wp2
        go_round
        case rel => exact ⟨k + 1, by omega, by go_num, by rw [HS.out, HQ.out, ← HE.out]; rfl⟩
        case measure => simp [intOf]; omega
    · have hk' : k = zs.length := by omega
      subst hk'
      rw [List.take_length]
      generalize hT : hasB t zs = T
      have HT : Hid (hasB t zs = T) := hT
      clear hT
      obtain ⟨i0, hi, hz0, hz1, hz2⟩ := info_parts Try.info3
      have HI : Hid (Try.prog.info? 3 = some i0 ∧ i0.zero = some (.int .i64 0) ∧ i0.size = 1 ∧ i0.bytes = 8) := ⟨hi, hz0, hz1, hz2⟩
      clear hi hz0 hz1 hz2
      have HA : Hid (At4 u3 w.heap.size (.int .i64 t) (.int .i64 f) (.int .i64 kk) (.string d)) := hA
      clear a1 a2 a3 hA
      have HD : Hid (d.size ≤ maxLen) := hd
      have HL : Hid (Below w.heap.size w u3) := hl
      clear hd hl
      go_wp2
      go_region_held3 (fun W => Below u3.heap.size u3 W ∧ W.cell? ⟨w.heap.size, 0, none⟩ = some (.int .i64 t))
        (first | exact ⟨(Below.refl _ _).drew, a0⟩ | (refine held_alloc_drew ?_ _; assumption) | (refine held_alloc ?_ _; assumption) | (refine held_grown ?_ hlt' hgrow2 hrow2; assumption) | (refine held_grown ?_ hlt' hgrow (fun k e => by cases e); assumption))
        (first
          | (refine step_append_grows (by rfl) _ _ _ (by rfl) 3 i0 (.int .i64 0) 1 8 Try.underlying24 HI.out.1 HI.out.2.1 HI.out.2.2.1 HI.out.2.2.2 rfl (by decide) (some _) 0 0 [] (by rfl) (fun q => by cases q) rfl (fun _ _ j y hy => by simp at hy) ⟨b, off, none⟩ zs.length cap (zs.map (Value.int .i64)) (by rfl) (by simp) (news_held (by assumption) HR.out) (ints_one zs) (by omega) (by unfold maxLen; omega) (by omega) ?_; intro v1 w1 hown hgrow; obtain ⟨g1, cap1, rfl, hg1, hown1⟩ := own_low (by assumption) hown h0; have hgb := (Below.refl _ _).grown hgrow (Nat.le_refl _) (fun k e => by cases e))
          | (refine step_append_own (by rfl) _ _ _ (by rfl) u3.heap.size 3 i0 (.int .i64 0) 1 8 Try.underlying24 HI.out.1 HI.out.2.1 HI.out.2.2.1 HI.out.2.2.2 rfl (by decide) (.slice (some ⟨g1, 0, none⟩) zs.length cap1) zs.length (zs.map (Value.int .i64)) (by rfl) (by first | exact hown1 | exact hown1.alloc _) _ 1 1 [.int .i64 t] (by rfl) rfl (one_news (by first | (simp; done) | (refine later hgb ?_; simp))) (by simp [Value.oneCell']) (by unfold maxLen; omega) (by omega) (held_size (by assumption)) ?_; intro v2 w2 hown2 hgrow2 hne2; obtain ⟨g2, cap2, rfl, hg2, hc2, hm2⟩ := own_form hown2 (by omega); have hrow2 : ∀ k, (Value.slice (some ⟨g1, 0, none⟩) zs.length cap1).ownBlock = some k → u3.heap.size ≤ k := (fun k e => by simp [Value.ownBlock] at e; omega)))
      all_goals
        rename_i hq
        obtain ⟨hBq, b0⟩ := hq
        have HO : Hid (w2.ownsRow u3.heap.size 3 1 (.slice (some ⟨g2, 0, none⟩) (zs.length + 1) cap2) (zs.length + 1) (zs.map (Value.int .i64) ++ [.int .i64 t])) := hown2
        have hBl := bt HL.out hBq
        clear hown2 hgrow hgrow2 hgb hown hown1 hne2 hrow2 hg1 HI a0
        unfold maxLen at hm2
        go_wp2_with fail
        refine (amongW_any _ _ _ (by omega) (by omega)).mono ?_
        rintro e u ⟨rfl, rfl⟩
        go_wp2
        have j0 := Int.emod_nonneg at' (show ((zs.length : Int) + 1) ≠ 0 by omega)
        have j1 := Int.emod_lt_of_pos at' (show 0 < ((zs.length : Int) + 1) by omega)
        generalize at' % ((zs.length : Int) + 1) = J at *
        obtain ⟨j, rfl⟩ := Int.eq_ofNat_of_zero_le j0
        obtain ⟨y, hy, HF⟩ := own_at HO.out j (by omega)
        have hn := (own_last HO.out)
        have f1 := HO.out.frozenAt j
        have f2 := HO.out.frozenAt zs.length
        have hnl : ((zs.length : Int) + 1 - 1) = zs.length := by omega
        have hwr : IntKind.i64.wrap ((zs.length : Int) + 1 - 1) = zs.length := by rw [IntKind.wrap_i64]; omega
        have n1 : (zs.length : Int) < (zs.length : Int) + 1 := by omega
        have n0 : (0 : Int) ≤ (zs.length : Int) := by omega
        have HX : Hid (zs.length * 8 ≤ 140737488351232 ∧ 0 < zs.length ∧ zs.length ≤ 9223372036854775807) := ⟨hz, h0, hbig⟩
        by_cases hjn : j = zs.length
        · subst hjn
          have hyt : y = t := by rw [HF.out]; simp [List.getD]
          subst hyt
          clear hn
          go_region
          have hBv := swap_below hBq hg2 zs.length zs.length (.int .i64 y) (.int .i64 y)
          have hrv := swap_row HO.out HF
          have hrd : Row ((u.setCell ⟨g2, zs.length, none⟩ (.int .i64 y)).setCell ⟨g2, zs.length, none⟩ (.int .i64 y)).drew (some ⟨g2, 0, none⟩) (swapL zs y zs.length) := hrv
          generalize ((u.setCell ⟨g2, zs.length, none⟩ (.int .i64 y)).setCell ⟨g2, zs.length, none⟩ (.int .i64 y)).drew = V at *
          clear hrv b0 hy f1 f2 hwr hnl n1 n0
          have hAv := HA.out.later hBv
          have hAv' := hAv
          obtain ⟨⟨c0, c1, c2, c3⟩, -, -⟩ := hAv'
          go_wp2_with fail
          refine (for_mine HD.out HX.out.2.2 HM.out HT.out hme (HR.out.later hBv)).mono ?_
          rintro e V1 ⟨rfl, l1⟩
          clear c0 c1 c2 c3
          obtain ⟨⟨c0, c1, c2, c3⟩, -, -⟩ := hAv.later l1
          go_wp2_with fail
          refine (for_own HD.out (by have := HX.out.1; omega) HM.out (Nat.le_refl _) (hrd.later l1)).mono ?_
          rintro e V2 ⟨rfl, l2⟩
          go_wp2
          go_ret
          exact ⟨rfl, bt (bt (bt HL.out hBv) l1) l2⟩
        · have hjl : j < zs.length := by omega
          go_region
          have hBv := swap_below hBq hg2 j zs.length (.int .i64 t) (.int .i64 y)
          have hrv := swap_row HO.out HF
          have hrd : Row ((u.setCell ⟨g2, j, none⟩ (.int .i64 t)).setCell ⟨g2, zs.length, none⟩ (.int .i64 y)).drew (some ⟨g2, 0, none⟩) (swapL zs t j) := hrv
          generalize ((u.setCell ⟨g2, j, none⟩ (.int .i64 t)).setCell ⟨g2, zs.length, none⟩ (.int .i64 y)).drew = V at *
          clear hrv b0 hy f1 f2 hwr hnl n1 n0 hn
          have hAv := HA.out.later hBv
          have hAv' := hAv
          obtain ⟨⟨c0, c1, c2, c3⟩, -, -⟩ := hAv'
          go_wp2_with fail
          refine (for_mine HD.out HX.out.2.2 HM.out HT.out hme (HR.out.later hBv)).mono ?_
          rintro e V1 ⟨rfl, l1⟩
          clear c0 c1 c2 c3
          obtain ⟨⟨c0, c1, c2, c3⟩, -, -⟩ := hAv.later l1
          go_wp2_with fail
          refine (for_own HD.out (by have := HX.out.1; omega) HM.out (Nat.le_of_lt hjl) (hrd.later l1)).mono ?_
          rintro e V2 ⟨rfl, l2⟩
          go_wp2
          go_ret
          exact ⟨rfl, bt (bt (bt HL.out hBv) l1) l2⟩

set_option maxHeartbeats 4000000 in
theorem walk_nil (t f kk : Int) (d : ByteArray) (hd : d.size ≤ maxLen) (a : Option Addr) (cap : Nat) (at' : Int) (w : World) (h : mayB t f kk d.size = true) (hn : a = none → cap = 0) (hm : ¬ t = 281474976710655) :
    Calls Try.prog 6 #[.agg #[.int .i64 t, .int .i64 f, .int .i64 kk, .string d], .slice a 0 cap, .int .i64 at'] w fun e w' => e = .returned (.bool true) ∧ Below w.heap.size w w' := by
  have hA := at_box w (.int .i64 t) (.int .i64 f) (.int .i64 kk) (.string d) 23
  have hl := bel1 w (.cells #[.int .i64 t, .int .i64 f, .int .i64 kk, .string d] 23)
  have hk := codeE_t
  have hm1 : macB t = true := macB_t (may_parts h).1
  have hkb : codeB true = 0 := rfl
  have hme : (t == 281474976710655) = false := by simpa using hm
  go_enter Try.func6, Try.ntmps6
  go_wp2_with fail
  refine (works_any _).mono ?_
  rintro e u1 ⟨rfl, l1⟩
  have hl := bt hl l1
  have hA := hA.later l1
  clear l1
  have hA' := hA
  obtain ⟨⟨a0, a1, a2, a3⟩, -, -⟩ := hA'
  go_wp2_with fail
  refine (check_any _ _ _ _ _ hd).mono ?_
  rw [h]
  rintro e u2 ⟨rfl, l2⟩
  have hl := bt hl l2
  have hA := hA.later l2
  clear l2 a0 a1 a2 a3
  have HM : Hid (mayB t f kk d.size = true) := h
  clear h
  have hA' := hA
  obtain ⟨⟨a0, a1, a2, a3⟩, -, hlt'⟩ := hA'
  go_wp2_with fail
  refine (pgroup_any _ _).mono ?_
  rw [hm1]
  rintro e u3 ⟨rfl, rfl⟩
  go_wp2
  refine wp_loop_rounds 1 ?_
  rw [rounds_succ]
  obtain ⟨i0, hi, hz0, hz1, hz2⟩ := info_parts Try.info3
  have HI : Hid (Try.prog.info? 3 = some i0 ∧ i0.zero = some (.int .i64 0) ∧ i0.size = 1 ∧ i0.bytes = 8) := ⟨hi, hz0, hz1, hz2⟩
  have HA : Hid (At4 u3 w.heap.size (.int .i64 t) (.int .i64 f) (.int .i64 kk) (.string d)) := hA
  have HD : Hid (d.size ≤ maxLen) := hd
  have HL : Hid (Below w.heap.size w u3) := hl
  clear a1 a2 a3 hA hd hl hi hz0 hz1 hz2
  go_wp2
  go_region_held3 (fun W => Below u3.heap.size u3 W ∧ W.cell? ⟨w.heap.size, 0, none⟩ = some (.int .i64 t))
    (first | assumption | exact ⟨(Below.refl _ _).drew, a0⟩ | (refine held_alloc_drew ?_ _; assumption) | (refine held_alloc ?_ _; assumption) | (refine held_grown ?_ hlt' hgrow (fun k e => by cases e); assumption))
    (first
      | (refine step_append_grows (by rfl) _ _ _ (by rfl) 3 i0 (.int .i64 0) 1 8 Try.underlying24 HI.out.1 HI.out.2.1 HI.out.2.2.1 HI.out.2.2.2 rfl (by decide) (some _) 0 0 [] (by rfl) (fun q => by cases q) rfl (fun _ _ j y hy => by simp at hy) _ 1 1 [.int .i64 t] (by rfl) rfl (one_news (by simp)) (by simp [Value.oneCell']) (by omega) (by unfold maxLen; omega) (by omega) ?_; intro v1 w1 hown hgrow; obtain ⟨g2, cap2, rfl, hg2, hown2⟩ := own_low (by assumption) hown (by decide))
      | (refine step_append_zero (by rfl) _ _ _ (by rfl) 3 i0 Try.underlying24 HI.out.1 HI.out.2.2.1 _ (by rfl) a cap (by rfl) hn ?_))
  all_goals
    rename_i hq
    obtain ⟨hBq, b0⟩ := hq
    have HO : Hid (w1.ownsRow u3.heap.size 3 1 (.slice (some ⟨g2, 0, none⟩) 1 cap2) 1 [.int .i64 t]) := hown2
    clear hown hown2 hgrow HI a0 hn
    have hone : at' % 1 = 0 := Int.emod_one at'
    go_wp2_with fail
    refine (amongW_any _ _ _ (by omega) (by omega)).mono ?_
    rintro e u ⟨rfl, rfl⟩
    have hy : u.cell? ⟨g2, 0, none⟩ = some (.int .i64 t) := by have := HO.out.cellAt 0 (by decide); simpa using this
    have f1 := HO.out.frozenAt 0
    go_wp2
    go_region
    have hBv := swap_below hBq hg2 0 0 (.int .i64 t) (.int .i64 t)
    have hrv := swap_row (zs := []) (t := t) (y := t) (j := 0) (cap := cap2) (g := g2) (base := u3.heap.size) (w := u) (by simpa using HO.out) (show _ = _ from rfl)
    have hrd : Row ((u.setCell ⟨g2, 0, none⟩ (.int .i64 t)).setCell ⟨g2, 0, none⟩ (.int .i64 t)).drew (some ⟨g2, 0, none⟩) (swapL [] t 0) := hrv
    generalize ((u.setCell ⟨g2, 0, none⟩ (.int .i64 t)).setCell ⟨g2, 0, none⟩ (.int .i64 t)).drew = V at *
    clear hrv b0 hy f1
    have hAv := HA.out.later hBv
    have hAv' := hAv
    obtain ⟨⟨c0, c1, c2, c3⟩, -, -⟩ := hAv'
    go_wp2_with fail
    refine (for_mine (zs := []) HD.out (by decide) HM.out (hasB_nil t) hme (Or.inl rfl)).mono ?_
    rintro e V1 ⟨rfl, l1⟩
    clear c0 c1 c2 c3
    obtain ⟨⟨c0, c1, c2, c3⟩, -, -⟩ := hAv.later l1
    go_wp2_with fail
    refine (for_own (zs := []) HD.out (by decide) HM.out (Nat.le_refl _) (hrd.later l1)).mono ?_
    rintro e V2 ⟨rfl, l2⟩
    go_wp2
    go_ret
    exact ⟨rfl, bt (bt (bt HL.out hBv) l1) l2⟩

set_option maxHeartbeats 4000000 in
theorem walk_nil_all (t f kk : Int) (d : ByteArray) (hd : d.size ≤ maxLen) (a : Option Addr) (cap : Nat) (at' : Int) (w : World) (h : mayB t f kk d.size = true) (hn : a = none → cap = 0) (hme : (t == 281474976710655) = true) (hgr : grpB t = true) :
    Calls Try.prog 6 #[.agg #[.int .i64 t, .int .i64 f, .int .i64 kk, .string d], .slice a 0 cap, .int .i64 at'] w fun e w' => e = .returned (.bool true) ∧ Below w.heap.size w w' := by
  have hA := at_box w (.int .i64 t) (.int .i64 f) (.int .i64 kk) (.string d) 23
  have hl := bel1 w (.cells #[.int .i64 t, .int .i64 f, .int .i64 kk, .string d] 23)
  have hk := codeE_t
  have hm1 : macB t = true := macB_t (may_parts h).1
  have hkb : codeB true = 0 := rfl
  go_enter Try.func6, Try.ntmps6
  go_wp2_with fail
  refine (works_any _).mono ?_
  rintro e u1 ⟨rfl, l1⟩
  have hl := bt hl l1
  have hA := hA.later l1
  clear l1
  have hA' := hA
  obtain ⟨⟨a0, a1, a2, a3⟩, -, -⟩ := hA'
  go_wp2_with fail
  refine (check_any _ _ _ _ _ hd).mono ?_
  rw [h]
  rintro e u2 ⟨rfl, l2⟩
  have hl := bt hl l2
  have hA := hA.later l2
  clear l2 a0 a1 a2 a3
  have HM : Hid (mayB t f kk d.size = true) := h
  clear h
  have hA' := hA
  obtain ⟨⟨a0, a1, a2, a3⟩, -, hlt'⟩ := hA'
  go_wp2_with fail
  refine (pgroup_any _ _).mono ?_
  rw [hm1]
  rintro e u3 ⟨rfl, rfl⟩
  go_wp2
  refine wp_loop_rounds 1 ?_
  rw [rounds_succ]
  obtain ⟨i0, hi, hz0, hz1, hz2⟩ := info_parts Try.info3
  have HI : Hid (Try.prog.info? 3 = some i0 ∧ i0.zero = some (.int .i64 0) ∧ i0.size = 1 ∧ i0.bytes = 8) := ⟨hi, hz0, hz1, hz2⟩
  have HA : Hid (At4 u3 w.heap.size (.int .i64 t) (.int .i64 f) (.int .i64 kk) (.string d)) := hA
  have HD : Hid (d.size ≤ maxLen) := hd
  have HL : Hid (Below w.heap.size w u3) := hl
  clear a1 a2 a3 hA hd hl hi hz0 hz1 hz2
  go_wp2
  go_region_held3 (fun W => Below u3.heap.size u3 W ∧ W.cell? ⟨w.heap.size, 0, none⟩ = some (.int .i64 t))
    (first | assumption | exact ⟨(Below.refl _ _).drew, a0⟩ | (refine held_alloc_drew ?_ _; assumption) | (refine held_alloc ?_ _; assumption) | (refine held_grown ?_ hlt' hgrow (fun k e => by cases e); assumption))
    (first
      | (refine step_append_grows (by rfl) _ _ _ (by rfl) 3 i0 (.int .i64 0) 1 8 Try.underlying24 HI.out.1 HI.out.2.1 HI.out.2.2.1 HI.out.2.2.2 rfl (by decide) (some _) 0 0 [] (by rfl) (fun q => by cases q) rfl (fun _ _ j y hy => by simp at hy) _ 1 1 [.int .i64 t] (by rfl) rfl (one_news (by simp)) (by simp [Value.oneCell']) (by omega) (by unfold maxLen; omega) (by omega) ?_; intro v1 w1 hown hgrow; obtain ⟨g2, cap2, rfl, hg2, hown2⟩ := own_low (by assumption) hown (by decide))
      | (refine step_append_zero (by rfl) _ _ _ (by rfl) 3 i0 Try.underlying24 HI.out.1 HI.out.2.2.1 _ (by rfl) a cap (by rfl) hn ?_))
  all_goals
    rename_i hq
    obtain ⟨hBq, b0⟩ := hq
    have HO : Hid (w1.ownsRow u3.heap.size 3 1 (.slice (some ⟨g2, 0, none⟩) 1 cap2) 1 [.int .i64 t]) := hown2
    clear hown hown2 hgrow HI a0 hn
    have hone : at' % 1 = 0 := Int.emod_one at'
    go_wp2_with fail
    refine (amongW_any _ _ _ (by omega) (by omega)).mono ?_
    rintro e u ⟨rfl, rfl⟩
    have hy : u.cell? ⟨g2, 0, none⟩ = some (.int .i64 t) := by have := HO.out.cellAt 0 (by decide); simpa using this
    have f1 := HO.out.frozenAt 0
    go_wp2
    go_region
    have hBv := swap_below hBq hg2 0 0 (.int .i64 t) (.int .i64 t)
    have hrv := swap_row (zs := []) (t := t) (y := t) (j := 0) (cap := cap2) (g := g2) (base := u3.heap.size) (w := u) (by simpa using HO.out) (show _ = _ from rfl)
    have hrd : Row ((u.setCell ⟨g2, 0, none⟩ (.int .i64 t)).setCell ⟨g2, 0, none⟩ (.int .i64 t)).drew (some ⟨g2, 0, none⟩) (swapL [] t 0) := hrv
    generalize ((u.setCell ⟨g2, 0, none⟩ (.int .i64 t)).setCell ⟨g2, 0, none⟩ (.int .i64 t)).drew = V at *
    clear hrv b0 hy f1
    have hAv := HA.out.later hBv
    have hAv' := hAv
    obtain ⟨⟨c0, c1, c2, c3⟩, -, -⟩ := hAv'
    go_wp2_with fail
    refine (for_mine (zs := []) HD.out (by decide) HM.out (hasB_nil t) hme (Or.inl rfl)).mono ?_
    rintro e V1 ⟨rfl, l1⟩
    clear c0 c1 c2 c3
    obtain ⟨⟨c0, c1, c2, c3⟩, -, -⟩ := hAv.later l1
    go_wp2_with fail
    refine (for_own (zs := []) HD.out (by decide) HM.out (Nat.le_refl _) (hrd.later l1)).mono ?_
    rintro e V2 ⟨rfl, l2⟩
    go_wp2
    go_ret
    exact ⟨rfl, bt (bt (bt HL.out hBv) l1) l2⟩

theorem walk (t : Int) (wt : (Lit.int .i64 t).wf = true) (f : Int) (wf : (Lit.int .i64 f).wf = true) (k : Int) (wk : (Lit.int .i64 k).wf = true) (d : ByteArray) (hd : d.size ≤ maxLen) (a : Option Addr) (cap : Nat) (zs : List Int) (at' : Int) (wa : (Lit.int .i64 at').wf = true) (w : World) (hi : IsInts w a cap zs) (hz : zs.length * 8 ≤ 140737488351232) :
    Calls Try.prog 6 #[.agg #[.int .i64 t, .int .i64 f, .int .i64 k, .string d], .slice a zs.length cap, .int .i64 at'] w fun e w' => e = .returned (.bool true) ∧ Below w.heap.size w w' := by
  rcases Bool.eq_false_or_eq_true (mayB t f k d.size) with h | h
  · obtain ⟨hr, hn⟩ := row_of hi
    have hc : a = none → cap = 0 := by
      rcases hi with ⟨_, q, _⟩ | ⟨x, q, _⟩
      · exact fun _ => q
      · intro p; rw [p] at q; cases q
    cases zs with
    | nil =>
      by_cases hm : t = 281474976710655
      · exact walk_nil_all t f k d hd a cap at' w h hc (by rw [hm]; rfl) (by rw [hm]; exact grp_all)
      · exact walk_nil t f k d hd a cap at' w h hc hm
    | cons z l =>
      cases a with
      | none => cases hn rfl
      | some x =>
        by_cases hm : t = 281474976710655
        · exact walk_some_all t f k d hd x cap (z :: l) at' w h hr hz (by simp) (by rw [hm]; rfl) (by rw [hm]; exact grp_all)
        · exact walk_some t f k d hd x cap (z :: l) at' w h hr hz (by simp) hm
  · exact walk_no t f k d hd a cap zs at' w h


set_option maxRecDepth 100000 in
theorem lifted (os : Os) (started : os.Started) (H : Type) (enc : TypeId × Value → H) :
    ReturnsInHanded {} Try.checked os 6 .any (Rows.etherForSpec.pre6 enc Try.prog Try.f6 Rows.etherForRow.domain false) (Rows.etherForSpec.post enc Try.prog Try.f6 false true false false) := by
  refine returnsInHanded_of_change_sized (C := Try.checked) own started (by kernel_rfl) Try.func6
    (ChangeSpec.witness6 (enc := enc) (C := Try.checked) false ⟨#[], #[.agg #[.int .i64 0, .int .i64 0, .int .i64 0, .string ByteArray.empty], .slice none 0 0, .int .i64 0], []⟩ 8 (by kernel_rfl) (by kernel_rfl) (by kernel_rfl) (by kernel_rfl)) ?_
  intro W base args ds gs before hval0 hW hcnd hsz0 _
  have hsz : (DataW.weightsEach Try.prog (Try.f6.params.toList ++ Rows.etherForSpec.plain.varTypes Try.prog) (ds ++ gs)).all (· ≤ reachBytes) = true := hsz0
  have hval : ∀ (j : Nat) t v, Try.f6.params[j]? = some t → args[j]? = some v → Value.okWide Try.prog W .any base t v := hval0
  have hW' := hW
  obtain ⟨p, q, hA0, hV, rfl, hfz, hnd⟩ := hW
  have hA : DataW.TrodAll enc Try.prog W 0 (fun _ => true) true Try.f6.params.toList args.toList ds p := hA0
  rw [Try.params6] at hA hval hsz
  obtain ⟨v0, vs0, d0, ds0, p0, q0, hargs, rfl, rfl, h0, r0⟩ := trodAll_cons hA
  obtain ⟨v1, vs1, d1, ds1, p1, q1, rfl, rfl, rfl, h1, r1⟩ := trodAll_cons r0
  obtain ⟨v2, vs2, d2, ds2, p2, q2, rfl, rfl, rfl, h2, r2⟩ := trodAll_cons r1
  obtain ⟨rfl, rfl, rfl⟩ := trodAll_nil r2
  obtain rfl : args = #[v0, v1, v2] := by cases args; simp_all
  obtain ⟨rfl, rfl⟩ := trodVars_none hV
  have k0 := h0
  have lt0 : ∀ x ∈ p0, x.block < W.heap.size := by obtain ⟨m, hm⟩ := k0; exact DataW.trod_lt m _ _ _ hm
  have k1 := h1
  have lt1 : ∀ x ∈ p1, x.block < W.heap.size := by obtain ⟨m, hm⟩ := k1; exact DataW.trod_lt m _ _ _ hm
  have k2 := h2
  have lt2 : ∀ x ∈ p2, x.block < W.heap.size := by obtain ⟨m, hm⟩ := k2; exact DataW.trod_lt m _ _ _ hm
  obtain ⟨f0_0, f0_1, f0_2, f0_3, rfl, e0_0, e0_1, e0_2, e0_3⟩ := open23 (hval 0 23 v0 rfl rfl) h0
  obtain ⟨a1, len1, c1, rfl⟩ := okWide_slice Try.underlying24 (hval 1 24 v1 rfl rfl)
  obtain ⟨zs1, hlen1, g1, y1⟩ : ∃ zs : List Int, zs.length = len1 ∧ IsInts W a1 c1 zs ∧ zs.length * 8 ≤ 140737488351232 := by
    obtain ⟨fuel, hf⟩ := h1
    rcases open_ints Try.underlying24 Try.underlying3 (by kernel_rfl) hf with ⟨hcs, _⟩ | ⟨x, l, c, zs, hcs, _, hl, hm, hz, hx, hcell, hwz⟩
    · simp [Value.cells] at hcs
      obtain ⟨rfl, rfl, rfl⟩ := hcs
      exact ⟨[], rfl, .inl ⟨rfl, rfl, rfl⟩, by simp⟩
    · simp [Value.cells] at hcs
      obtain ⟨rfl, rfl, rfl⟩ := hcs
      simp only [if_true] at hz
      have hd : d1 = .slice (lits .i64 (zs.take len1)) (lits .i64 (zs.drop len1)) := congrArg Prod.fst hx
      have hsl := sized_slice hsz (j := 1) (t := 24) (e := 3) rfl (by rw [hd]; rfl) Try.underlying24
      rw [bytes3] at hsl
      simp only [lits, List.length_map, List.length_take, List.length_drop, reachBytes] at hsl
      have htl : (zs.take len1).length = len1 := by rw [List.length_take]; omega
      refine ⟨zs.take len1, htl, .inr ⟨x, rfl, ?_, fun z hzm => hwz z (List.mem_of_mem_take hzm)⟩, ?_⟩
      · intro i hi
        rw [htl] at hi
        have e : (zs.take len1).getD i 0 = zs.getD i 0 := by
          simp only [List.getD, List.getElem?_take, if_pos hi]
        rw [e]
        exact hcell i (by omega)
      · rw [htl]; omega
  subst hlen1
  obtain ⟨a2, rfl, -, -, w2⟩ := open_int Try.underlying3 (hval 2 3 v2 rfl rfl) h2
  clear hA0 hval0
  refine (walk f0_0 e0_0 f0_1 e0_1 f0_2 e0_2 f0_3 e0_3 a1 c1 zs1 a2 w2 W g1 y1).mono fun e W' ⟨he, bel⟩ => ?_
  subst he
  exact ⟨_, rfl, _, _, _, [], _, [], hW', trodAll_mk1 (shut_bool Try.underlying4 _), (trodAll_cons_mk (Below.trod laidOut (by kernel_rfl) (of_decide_eq_true (by kernel_rfl)) k0 bel lt0) (trodAll_cons_mk (Below.trod laidOut (by kernel_rfl) (of_decide_eq_true (by kernel_rfl)) k1 bel lt1) (trodAll_cons_mk (Below.trod laidOut (by kernel_rfl) (of_decide_eq_true (by kernel_rfl)) k2 bel lt2) trodAll_mk0))), rfl, bel.frame _, fun h => by cases h⟩

theorem over : Rows.etherForRow.holds Try.pinned (OpenSpec.ofChange Rows.etherForSpec) :=
  OpenClaim.holds_of_wide 6 Try.f6 rfl rfl rfl rfl rfl rfl rfl ⟨rfl, rfl, rfl, rfl, rfl⟩ rfl rfl rfl rfl rfl (by kernel_rfl) Try.func6 (by kernel_rfl)
    (of_decide_eq_true (by kernel_rfl)) (by unfold Func.isWrapper; first | (rw [if_pos (by decide +kernel)]; kernel_rfl) | (rw [if_neg (by decide +kernel)]; exact ⟨rfl, rfl⟩))
    (fun os started H enc _ => lifted os started H enc)

end Go.Proofs.Ytbppijgceacepaa.etherFor
namespace Go.Proofs.Ytbppijgceacepaa
theorem etherFor_holds : Rows.EtherForSaid := etherFor.over
end Go.Proofs.Ytbppijgceacepaa
