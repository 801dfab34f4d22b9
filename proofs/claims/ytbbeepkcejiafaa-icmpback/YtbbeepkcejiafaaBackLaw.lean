/- Proved: what is encoded is decoded as the packet; with a bit turned it is none; an answer has just what was asked, and is no question; no condition. -/
import Derived.Test.YtbbeepkcejiafaaRows
import Derived.Test.YtbbeepkcejiafaaIcp
import Derived.BigRegion
import Derived.WalkKit
import Derived.ProofKit
import Derived.OpenShut
import Derived.ShutString
import Derived.ChangeOld
import Derived.Below
import Derived.Carry
import Derived.SizedLaws
import Derived.Deep.Fields
namespace Go.Proofs.Ytbbeepkcejiafaa.icmpBack
open Go.ChangeShapes Go.WideShapes Go.ChangeAt Go.RowKit
open Go.ChangeMaps (open_string)
set_option linter.unusedVariables false

theorem own : ownKnob Try.prog.godebug = none := by kernel_rfl
theorem laidOut : laidOutB Try.prog = true := by kernel_rfl

theorem open_fields {H : Type} {enc : TypeId × Value → H} {P : Program} {w : World} {base : Nat} {spare : Nat → Bool} {held : Bool} {r : Reach} {b0 : Nat} {t : TypeId} {fs : Array Field} {v : Value} {d : DataW H} {p : List MemPlace} (hs : P.underlying t = some (.struct fs)) (hone : Go.Deep.oneCellFields P fs = true) (hC : P.cellsOf t = fs.size)
    (hv : Value.okWide P w r b0 t v) (h : DataW.Trod enc P w base spare held t v d p) :
    ∃ (cs : Array Value) (parts : List (DataW H)), v = .agg cs ∧ d = .agg parts ∧ cs.size = fs.size ∧ ∀ (i : Nat) (f : Field), fs[i]? = some f → ∃ n x, DataW.trod enc P w base spare held n f.type ((cs.toList.drop i).take 1) = some x ∧ parts[i]? = some x.1 := by
  obtain ⟨cs, rfl, hsz⟩ := okWide_struct hs hv
  obtain ⟨fuel, hf⟩ := h
  obtain ⟨xs, n, _, hx, hl, hlen, hfs⟩ := DataW.trod_struct hs hf
  have hd : d = .agg (xs.map (·.1)) := congrArg Prod.fst hx
  refine ⟨cs, xs.map (·.1), rfl, hd, hsz.trans hC, fun i f hi => ?_⟩
  obtain ⟨o1, k1⟩ := Go.Deep.hone_of hone i f hi
  have := hfs i f hi
  have hlt : i < xs.length := by rw [hlen]; exact (Array.getElem?_eq_some_iff.1 hi).1
  rw [o1, k1, List.getElem?_eq_getElem hlt] at this
  exact ⟨n, _, by simpa [Value.cells] using this, by simp [List.getElem?_eq_getElem hlt]⟩
theorem sized_field {H : Type} {P : Program} {ts : List TypeId} {ds : List (DataW H)} (h : (DataW.weightsEach P ts ds).all (· ≤ reachBytes) = true) {j i : Nat} {t ft : TypeId} {fs : Array Field} {parts : List (DataW H)} {bytes : List UInt8} (ht : ts[j]? = some t) (hd : ds[j]? = some (.agg parts)) (hu : P.underlying t = some (.struct fs)) (hf : (fs.toList.map (·.type))[i]? = some ft) (hp : parts[i]? = some (.lit (.string bytes))) : bytes.length ≤ reachBytes := by
  have := List.all_eq_true.1 h _ (DataW.weights_mem_each ht hd bytes.length (by simp only [DataW.weights, hu]; exact DataW.weights_mem_each hf hp _ (by simp [DataW.weights])))
  simpa using this

theorem cells23 : Try.prog.cellsOf 23 = 5 := by kernel_rfl
theorem open23 {H : Type} {enc : TypeId × Value → H} {w : World} {base : Nat} {spare : Nat → Bool} {held : Bool} {r : Reach} {b0 : Nat} {v : Value} {d : DataW H} {p : List MemPlace} (hv : Value.okWide Try.prog w r b0 23 v) (h : DataW.Trod enc Try.prog w base spare held 23 v d p) :
    ∃ (f0 : Int) (f1 : Int) (f2 : Int) (f3 : Int) (f4 : ByteArray) (parts : List (DataW H)), v = .agg #[.int .i64 f0, .int .i64 f1, .int .i64 f2, .int .i64 f3, .string f4] ∧ d = .agg parts ∧ (Lit.int .i64 f0).wf = true ∧ (Lit.int .i64 f1).wf = true ∧ (Lit.int .i64 f2).wf = true ∧ (Lit.int .i64 f3).wf = true ∧ f4.size ≤ maxLen ∧ parts[4]? = some (.lit (.string f4.data.toList)) := by
  obtain ⟨⟨l⟩, parts, rfl, hdp, hz, hf⟩ := open_fields Try.underlying23 (by kernel_rfl) cells23 hv h
  have hz' : l.length = 5 := by simpa using hz
  match l, hz' with
  | [c0, c1, c2, c3, c4], _ =>
    obtain ⟨n0, x0, t0, m0⟩ := hf 0 _ rfl
    obtain ⟨f0, q0, -, e0⟩ := DataW.trod_int Try.underlying3 t0
    have p0 : c0 = .int .i64 f0 := by simpa using q0
    obtain ⟨n1, x1, t1, m1⟩ := hf 1 _ rfl
    obtain ⟨f1, q1, -, e1⟩ := DataW.trod_int Try.underlying3 t1
    have p1 : c1 = .int .i64 f1 := by simpa using q1
    obtain ⟨n2, x2, t2, m2⟩ := hf 2 _ rfl
    obtain ⟨f2, q2, -, e2⟩ := DataW.trod_int Try.underlying3 t2
    have p2 : c2 = .int .i64 f2 := by simpa using q2
    obtain ⟨n3, x3, t3, m3⟩ := hf 3 _ rfl
    obtain ⟨f3, q3, -, e3⟩ := DataW.trod_int Try.underlying3 t3
    have p3 : c3 = .int .i64 f3 := by simpa using q3
    obtain ⟨n4, x4, t4, m4⟩ := hf 4 _ rfl
    obtain ⟨f4, q4, y4, e4⟩ := DataW.trod_string Try.underlying9 t4
    rw [y4] at m4
    have p4 : c4 = .string f4 := by simpa using q4
    subst p0 p1 p2 p3 p4
    exact ⟨f0, f1, f2, f3, f4, parts, rfl, hdp, e0, e1, e2, e3, e4, m4⟩

-- WALK
theorem set_other {w : World} {a b : Addr} {v : Value} (h : a ≠ b) : (w.setCell a v).cell? b = w.cell? b := by
  apply World.cell?_setCell_other
  exact h
theorem keepAt {W : World} {b c : Nat} {vs : Array Value} (h : At W c vs) (hne : b ≠ c) (i : Nat) (u : Value) : At (W.setCell ⟨b, i, none⟩ u) c vs := by
  refine ⟨by rw [World.size_setCell]; exact h.1, fun j v hj => ?_⟩
  rw [World.frozen?_setCell]
  obtain ⟨k, f⟩ := h.2 j v hj
  exact ⟨(World.cell?_setCell_other _ _ _ _ (by intro q; cases q; exact hne rfl)).trans k, f⟩

theorem walk_n (ty co x y : Int) (da : ByteArray) (bit : Int) (w : World) (hd : da.size ≤ 1125899906842624) (hm : mayI ty co x y da.size = false) :
    Calls Try.prog 6 #[.agg #[.int .i64 ty, .int .i64 co, .int .i64 x, .int .i64 y, .string da], .int .i64 bit] w fun e w' => e = .returned (.bool true) ∧ Below w.heap.size w w' := by
  have hA := At.box w #[.int .i64 ty, .int .i64 co, .int .i64 x, .int .i64 y, .string da] 23
  have hl := bel1 w (.cells #[.int .i64 ty, .int .i64 co, .int .i64 x, .int .i64 y, .string da] 23)
  go_enter Try.func6, Try.ntmps6
  go_wp2_with fail
  refine (iworks_any _).mono ?_
  rintro e w1 ⟨rfl, hb⟩
  have hl := bt hl hb
  have hA := hA.later hb
  clear hb
  obtain ⟨⟨c0, c1, c2, c3, c4⟩, -, -⟩ := hA.five
  go_wp2_with fail
  refine (ienc_n hm _ hd).mono ?_
  rintro e w2 ⟨rfl, hb⟩
  have hl := bt hl hb
  go_wp2
  go_ret
  exact ⟨rfl, hl⟩

set_option maxRecDepth 100000 in
set_option maxHeartbeats 4000000 in
theorem walk_m (ty co x y : Int) (da : ByteArray) (bit : Int) (w : World) (hm : mayI ty co x y da.size = true) (ha : askB ty co x y da.size = false) :
    Calls Try.prog 6 #[.agg #[.int .i64 ty, .int .i64 co, .int .i64 x, .int .i64 y, .string da], .int .i64 bit] w fun e w' => e = .returned (.bool true) ∧ Below w.heap.size w w' := by
  have hA := At.box w #[.int .i64 ty, .int .i64 co, .int .i64 x, .int .i64 y, .string da] 23
  have hl := bel1 w (.cells #[.int .i64 ty, .int .i64 co, .int .i64 x, .int .i64 y, .string da] 23)
  obtain ⟨-, -, -, -, hz⟩ := mayI_q hm
  have hd : da.size ≤ 1125899906842624 := by omega
  have hEn := fun W => ienc_y hm W
  have hze := encI_size ty co x y da
  have hwt := encI_whole ty co x y da
  obtain ⟨q0, q1, q2, q3, q4⟩ := encI_back hm
  generalize encI ty co x y da = t at *
  have h8 : 8 ≤ (t.size : Int) := by omega
  have h9 : (t.size : Int) ≤ 65508 := by omega
  have hDe := fun W => idec_3 h8 h9 hwt W
  rw [q0, q1, q2, q3, q4] at hDe
  clear q0 q1 q2 q3 q4
  have hzt : t.size ≤ 65508 := by omega
  have HSUM : Hid (foldV (ws true t.data.toList) = 65535) := by
    show foldV (ws true t.data.toList) = 65535
    have h1 : sumS t = 0 := by simpa using hwt
    unfold sumS missV at h1
    omega
  clear hze hz hwt
  have n0 : 0 ≤ bit % (8 * (t.size : Int)) := Int.emod_nonneg _ (by omega)
  have n1 : bit % (8 * (t.size : Int)) < 8 * (t.size : Int) := Int.emod_lt_of_pos _ (by omega)
  go_enter Try.func6, Try.ntmps6
  go_wp2_with fail
  refine (iworks_any _).mono ?_
  rintro e w1 ⟨rfl, hb⟩
  replace hl := bt hl hb
  replace hA := hA.later hb
  clear hb
  obtain ⟨⟨c0, c1, c2, c3, c4⟩, -, -⟩ := hA.five
  go_wp2_with fail
  refine (hEn _).mono ?_
  rintro e w2 ⟨rfl, hb⟩
  replace hl := bt hl hb
  replace hA := hA.later hb
  clear hb c0 c1 c2 c3 c4 hEn
  go_wp2_with fail
  refine (hDe _).mono ?_
  rintro e w3 ⟨rfl, hb⟩
  replace hl := bt (bt hl hb) (bel1 w3 (.cells #[.int .i64 ty, .int .i64 co, .int .i64 x, .int .i64 y, .string da] 23))
  replace hA := (hA.later hb).later (bel1 w3 (.cells #[.int .i64 ty, .int .i64 co, .int .i64 x, .int .i64 y, .string da] 23))
  have hX := At.box w3 #[.int .i64 ty, .int .i64 co, .int .i64 x, .int .i64 y, .string da] 23
  clear hb hDe
  go_wp2
  generalize w3.alloc (.cells #[.int .i64 ty, .int .i64 co, .int .i64 x, .int .i64 y, .string da] 23) = W3 at *
  generalize w3.heap.size = gx at *
  obtain ⟨W1, hW1⟩ : ∃ W, W = W3.drew.alloc (.cells (bytesRow t (grownCap W3 t.size 0 5)) 5 ((bytesRow t (grownCap W3 t.size 0 5)).size, (bytesRow t (grownCap W3 t.size 0 5)).size + 1)) := ⟨_, rfl⟩
  have hcv := run_bytes_of_string (P := Try.prog) W3 9 39 5 t Try.underlying9 Try.underlying39 Try.underlying5
  rw [← hW1] at hcv
  have HC : Hid (∀ j (h : j < t.size), W1.cell? ⟨W3.heap.size, j, none⟩ = some (.int .u8 (t[j].toNat : Int))) := by
    rw [hW1]; exact get_loop_cells W3 t _
  have HF : Hid (∀ i : Nat, i < t.size → W1.frozen? ⟨W3.heap.size, i, none⟩ = false) := by
    intro i hi
    rw [hW1]
    have e := World.frozen?_alloc_mark W3.drew (bytesRow t (grownCap W3 t.size 0 5)) 5 (bytesRow t (grownCap W3 t.size 0 5)).size ((bytesRow t (grownCap W3 t.size 0 5)).size + 1) i
    have hbs : t.size ≤ (bytesRow t (grownCap W3 t.size 0 5)).size := by simp [bytesRow]
    refine e.trans ?_
    simp; omega
  have b6 : Below W3.heap.size W3 W1 := by rw [hW1]; exact (Below.refl _ _).drew.alloc (Nat.le_refl _) _
  have hwz : w.heap.size ≤ W3.heap.size := hl.size
  have hne1 : W3.heap.size ≠ w.heap.size := Nat.ne_of_gt hA.1
  have hne2 : W3.heap.size ≠ gx := Nat.ne_of_gt hX.1
  have b7 : Below w.heap.size w W1 := bt hl b6
  replace hA := hA.later b6
  replace hX := hX.later b6
  clear hW1 hl b6
  generalize grownCap W3 t.size 0 5 = c at *
  generalize W3.heap.size = g at *
  rw [hcv]
  clear hcv
  go_wp2_with (first | (go_at_call 22; refine (among_any _ _ _ (by omega) (by omega)).mono ?_; rintro e u4 ⟨rfl, rfl⟩))
  obtain ⟨K, hK⟩ : ∃ K : Nat, bit % (8 * (t.size : Int)) = (K : Int) := ⟨(bit % (8 * (t.size : Int))).toNat, by omega⟩
  rw [hK] at n0 n1 ⊢
  have k1 : K < 8 * t.size := by omega
  clear hK n0 n1
  have hKi : K / 8 < t.size := by omega
  have hci := HC.out (K / 8) hKi
  have hfi := HF.out (K / 8) hKi
  go_wp2
  have q1 : IntKind.i64.wrap ((K : Int) / 8) = ((K / 8 : Nat) : Int) := by
    rw [IntKind.wrap_i64]; omega
  have q1' : IntKind.i64.wrap ((K : Int).tdiv 8) = ((K / 8 : Nat) : Int) := by
    rw [Int.tdiv_eq_ediv_of_nonneg (by omega), IntKind.wrap_i64]; omega
  have q2 : (K : Int).tmod 8 = ((K % 8 : Nat) : Int) := by
    rw [Int.tmod_eq_emod_of_nonneg (by omega)]; omega
  have q3 : K % 8 < 8 := Nat.mod_lt _ (by omega)
  obtain ⟨j, hj⟩ : ∃ j, j = K % 8 := ⟨_, rfl⟩
  rw [← hj] at q2 q3
  generalize hi : K / 8 = i at *
  have q4 : (0 : Int) ≤ (i : Int) := by omega
  have q5 : (i : Int) < (t.size : Int) := by omega
  have q6 : (0 : Int) ≤ (j : Int) := by omega
  have q7 : (j : Int) < 8 := by omega
  clear hj hi k1
  have hx : bits BinOp.xor IntKind.u8 (t[i].toNat : Int) (2 ^ j % 256) = ((UInt8.ofNat (t[i].toNat ^^^ 2 ^ j)).toNat : Int) := by
    have hb := bit_turn t[i].toNat t[i].toNat_lt j q3
    rw [ofNat_toNat _ hb.2, ← IntKind.wrap_u8']
    exact xor_bit t[i].toNat j t[i].toNat_lt q3
  have HX : Hid (bits BinOp.xor IntKind.u8 (t[i].toNat : Int) (2 ^ j % 256) = ((UInt8.ofNat (t[i].toNat ^^^ 2 ^ j)).toNat : Int)) := hx
  clear hx
  have HNW : Hid (¬ foldV (ws true (t.data.toList.set i (UInt8.ofNat (t[i].toNat ^^^ 2 ^ j)))) = 65535) := turn_not_whole t.data.toList i j (by rw [len_toList]; exact hKi) q3 HSUM.out
  generalize UInt8.ofNat (t[i].toNat ^^^ 2 ^ j) = b' at *
  go_region
  rw [HX.out]
  have HC2 : Hid (∀ k (h : k < (t.data.toList.set i b').length), (u4.setCell ⟨g, i, none⟩ (.int .u8 (b'.toNat : Int))).drew.cell? ⟨g, k, none⟩ = some (.int .u8 (((t.data.toList.set i b')[k]).toNat : Int))) := by
    intro k hk
    have hk2 : k < t.size := by rw [List.length_set, len_toList] at hk; exact hk
    show (u4.setCell ⟨g, i, none⟩ (.int .u8 (b'.toNat : Int))).cell? ⟨g, k, none⟩ = _
    by_cases e : i = k
    · subst e
      rw [World.cell?_setCell_same _ _ _ hci]
      simp
    · have hne : (⟨g, i, none⟩ : Addr) ≠ ⟨g, k, none⟩ := by
        intro h
        have := congrArg Addr.off h
        exact e this
      rw [List.getElem_set_ne e]
      exact (set_other hne).trans (HC.out k hk2)
  have b8 : Below w.heap.size w (u4.setCell ⟨g, i, none⟩ (.int .u8 (b'.toNat : Int))).drew := (b7.setCell hwz _).drew
  have hA2 : At (u4.setCell ⟨g, i, none⟩ (.int .u8 (b'.toNat : Int))).drew w.heap.size #[.int .i64 ty, .int .i64 co, .int .i64 x, .int .i64 y, .string da] := keepAt hA hne1 i _
  have hX2 : At (u4.setCell ⟨g, i, none⟩ (.int .u8 (b'.toNat : Int))).drew gx #[.int .i64 ty, .int .i64 co, .int .i64 x, .int .i64 y, .string da] := keepAt hX hne2 i _
  generalize (u4.setCell ⟨g, i, none⟩ (.int .u8 (b'.toNat : Int))).drew = W2 at *
  clear HC hci hfi HF b7 q1 q1' q2 q3 q4 q5 q6 q7 HX hA hX HSUM
  have HL2 : Hid ((t.data.toList.set i b').length = t.size) := by show (t.data.toList.set i b').length = t.size; rw [List.length_set, len_toList]
  have hwh : (sumS ⟨(t.data.toList.set i b').toArray⟩ == 0) = false := by
    have hn := HNW.out
    have hbd := foldV_bd (ws true (t.data.toList.set i b'))
    unfold sumS missV
    simp only [beq_eq_false_iff_ne, ne_eq]
    omega
  clear HNW
  generalize t.data.toList.set i b' = l at *
  have hcv := run_convert_bytes_back (P := Try.prog) W2 39 9 5 ⟨g, 0, none⟩ c l Try.underlying39 Try.underlying5 Try.underlying9 (by
    intro k hk
    rw [Addr.add_lit, Nat.zero_add]
    exact HC2.out k hk)
  rw [HL2.out] at hcv
  clear HC2
  have hlz : (⟨l.toArray⟩ : ByteArray).size = t.size := by show l.toArray.size = _; simp only [List.size_toArray]; rw [HL2.out]
  have hD2 := fun W => idec_2 (s := ⟨l.toArray⟩) (by rw [hlz]; exact h8) (by rw [hlz]; exact h9) hwh W
  clear hwh hlz
  go_wp2_with fail
  refine (hD2 _).mono ?_
  rintro e w4 ⟨rfl, hb⟩
  have hl := bt (bt b8 hb) (bel1 w4 (.cells #[.int .i64 0, .int .i64 0, .int .i64 0, .int .i64 0, .string ⟨#[]⟩] 23))
  replace hA2 := (hA2.later hb).later (bel1 w4 (.cells #[.int .i64 0, .int .i64 0, .int .i64 0, .int .i64 0, .string ⟨#[]⟩] 23))
  replace hX2 := (hX2.later hb).later (bel1 w4 (.cells #[.int .i64 0, .int .i64 0, .int .i64 0, .int .i64 0, .string ⟨#[]⟩] 23))
  clear hb b8 hcv hD2 hwz hne1 hne2
  obtain ⟨⟨c0, c1, c2, c3, c4⟩, -, -⟩ := hA2.five
  obtain ⟨⟨d0, d1, d2, d3, d4⟩, -, -⟩ := hX2.five
  go_wp2_with fail
  refine (ans_f ha _ hd).mono ?_
  rintro e w5 ⟨rfl, hb⟩
  replace hl := bt (bt hl hb) (bel1 w5 (.cells #[.int .i64 0, .int .i64 0, .int .i64 0, .int .i64 0, .string ⟨#[]⟩] 23))
  go_wp2
  go_ret
  exact ⟨rfl, hl⟩

set_option maxRecDepth 100000 in
set_option maxHeartbeats 4000000 in
theorem walk_q (x y : Int) (da : ByteArray) (bit : Int) (w : World) (hm : mayI 8 0 x y da.size = true)  :
    Calls Try.prog 6 #[.agg #[.int .i64 8, .int .i64 0, .int .i64 x, .int .i64 y, .string da], .int .i64 bit] w fun e w' => e = .returned (.bool true) ∧ Below w.heap.size w w' := by
  have hA := At.box w #[.int .i64 8, .int .i64 0, .int .i64 x, .int .i64 y, .string da] 23
  have hl := bel1 w (.cells #[.int .i64 8, .int .i64 0, .int .i64 x, .int .i64 y, .string da] 23)
  obtain ⟨-, -, -, -, hz⟩ := mayI_q hm
  have hd : da.size ≤ 1125899906842624 := by omega
  have hEn := fun W => ienc_y hm W
  have hze := encI_size 8 0 x y da
  have hwt := encI_whole 8 0 x y da
  obtain ⟨q0, q1, q2, q3, q4⟩ := encI_back hm
  generalize encI 8 0 x y da = t at *
  have h8 : 8 ≤ (t.size : Int) := by omega
  have h9 : (t.size : Int) ≤ 65508 := by omega
  have hDe := fun W => idec_3 h8 h9 hwt W
  rw [q0, q1, q2, q3, q4] at hDe
  clear q0 q1 q2 q3 q4
  have hzt : t.size ≤ 65508 := by omega
  have HSUM : Hid (foldV (ws true t.data.toList) = 65535) := by
    show foldV (ws true t.data.toList) = 65535
    have h1 : sumS t = 0 := by simpa using hwt
    unfold sumS missV at h1
    omega
  clear hze hz hwt
  have n0 : 0 ≤ bit % (8 * (t.size : Int)) := Int.emod_nonneg _ (by omega)
  have n1 : bit % (8 * (t.size : Int)) < 8 * (t.size : Int) := Int.emod_lt_of_pos _ (by omega)
  go_enter Try.func6, Try.ntmps6
  go_wp2_with fail
  refine (iworks_any _).mono ?_
  rintro e w1 ⟨rfl, hb⟩
  replace hl := bt hl hb
  replace hA := hA.later hb
  clear hb
  obtain ⟨⟨c0, c1, c2, c3, c4⟩, -, -⟩ := hA.five
  go_wp2_with fail
  refine (hEn _).mono ?_
  rintro e w2 ⟨rfl, hb⟩
  replace hl := bt hl hb
  replace hA := hA.later hb
  clear hb c0 c1 c2 c3 c4 hEn
  go_wp2_with fail
  refine (hDe _).mono ?_
  rintro e w3 ⟨rfl, hb⟩
  replace hl := bt (bt hl hb) (bel1 w3 (.cells #[.int .i64 8, .int .i64 0, .int .i64 x, .int .i64 y, .string da] 23))
  replace hA := (hA.later hb).later (bel1 w3 (.cells #[.int .i64 8, .int .i64 0, .int .i64 x, .int .i64 y, .string da] 23))
  have hX := At.box w3 #[.int .i64 8, .int .i64 0, .int .i64 x, .int .i64 y, .string da] 23
  clear hb hDe
  go_wp2
  generalize w3.alloc (.cells #[.int .i64 8, .int .i64 0, .int .i64 x, .int .i64 y, .string da] 23) = W3 at *
  generalize w3.heap.size = gx at *
  obtain ⟨W1, hW1⟩ : ∃ W, W = W3.drew.alloc (.cells (bytesRow t (grownCap W3 t.size 0 5)) 5 ((bytesRow t (grownCap W3 t.size 0 5)).size, (bytesRow t (grownCap W3 t.size 0 5)).size + 1)) := ⟨_, rfl⟩
  have hcv := run_bytes_of_string (P := Try.prog) W3 9 39 5 t Try.underlying9 Try.underlying39 Try.underlying5
  rw [← hW1] at hcv
  have HC : Hid (∀ j (h : j < t.size), W1.cell? ⟨W3.heap.size, j, none⟩ = some (.int .u8 (t[j].toNat : Int))) := by
    rw [hW1]; exact get_loop_cells W3 t _
  have HF : Hid (∀ i : Nat, i < t.size → W1.frozen? ⟨W3.heap.size, i, none⟩ = false) := by
    intro i hi
    rw [hW1]
    have e := World.frozen?_alloc_mark W3.drew (bytesRow t (grownCap W3 t.size 0 5)) 5 (bytesRow t (grownCap W3 t.size 0 5)).size ((bytesRow t (grownCap W3 t.size 0 5)).size + 1) i
    have hbs : t.size ≤ (bytesRow t (grownCap W3 t.size 0 5)).size := by simp [bytesRow]
    refine e.trans ?_
    simp; omega
  have b6 : Below W3.heap.size W3 W1 := by rw [hW1]; exact (Below.refl _ _).drew.alloc (Nat.le_refl _) _
  have hwz : w.heap.size ≤ W3.heap.size := hl.size
  have hne1 : W3.heap.size ≠ w.heap.size := Nat.ne_of_gt hA.1
  have hne2 : W3.heap.size ≠ gx := Nat.ne_of_gt hX.1
  have b7 : Below w.heap.size w W1 := bt hl b6
  replace hA := hA.later b6
  replace hX := hX.later b6
  clear hW1 hl b6
  generalize grownCap W3 t.size 0 5 = c at *
  generalize W3.heap.size = g at *
  rw [hcv]
  clear hcv
  go_wp2_with (first | (go_at_call 22; refine (among_any _ _ _ (by omega) (by omega)).mono ?_; rintro e u4 ⟨rfl, rfl⟩))
  obtain ⟨K, hK⟩ : ∃ K : Nat, bit % (8 * (t.size : Int)) = (K : Int) := ⟨(bit % (8 * (t.size : Int))).toNat, by omega⟩
  rw [hK] at n0 n1 ⊢
  have k1 : K < 8 * t.size := by omega
  clear hK n0 n1
  have hKi : K / 8 < t.size := by omega
  have hci := HC.out (K / 8) hKi
  have hfi := HF.out (K / 8) hKi
  go_wp2
  have q1 : IntKind.i64.wrap ((K : Int) / 8) = ((K / 8 : Nat) : Int) := by
    rw [IntKind.wrap_i64]; omega
  have q1' : IntKind.i64.wrap ((K : Int).tdiv 8) = ((K / 8 : Nat) : Int) := by
    rw [Int.tdiv_eq_ediv_of_nonneg (by omega), IntKind.wrap_i64]; omega
  have q2 : (K : Int).tmod 8 = ((K % 8 : Nat) : Int) := by
    rw [Int.tmod_eq_emod_of_nonneg (by omega)]; omega
  have q3 : K % 8 < 8 := Nat.mod_lt _ (by omega)
  obtain ⟨j, hj⟩ : ∃ j, j = K % 8 := ⟨_, rfl⟩
  rw [← hj] at q2 q3
  generalize hi : K / 8 = i at *
  have q4 : (0 : Int) ≤ (i : Int) := by omega
  have q5 : (i : Int) < (t.size : Int) := by omega
  have q6 : (0 : Int) ≤ (j : Int) := by omega
  have q7 : (j : Int) < 8 := by omega
  clear hj hi k1
  have hx : bits BinOp.xor IntKind.u8 (t[i].toNat : Int) (2 ^ j % 256) = ((UInt8.ofNat (t[i].toNat ^^^ 2 ^ j)).toNat : Int) := by
    have hb := bit_turn t[i].toNat t[i].toNat_lt j q3
    rw [ofNat_toNat _ hb.2, ← IntKind.wrap_u8']
    exact xor_bit t[i].toNat j t[i].toNat_lt q3
  have HX : Hid (bits BinOp.xor IntKind.u8 (t[i].toNat : Int) (2 ^ j % 256) = ((UInt8.ofNat (t[i].toNat ^^^ 2 ^ j)).toNat : Int)) := hx
  clear hx
  have HNW : Hid (¬ foldV (ws true (t.data.toList.set i (UInt8.ofNat (t[i].toNat ^^^ 2 ^ j)))) = 65535) := turn_not_whole t.data.toList i j (by rw [len_toList]; exact hKi) q3 HSUM.out
  generalize UInt8.ofNat (t[i].toNat ^^^ 2 ^ j) = b' at *
  go_region
  rw [HX.out]
  have HC2 : Hid (∀ k (h : k < (t.data.toList.set i b').length), (u4.setCell ⟨g, i, none⟩ (.int .u8 (b'.toNat : Int))).drew.cell? ⟨g, k, none⟩ = some (.int .u8 (((t.data.toList.set i b')[k]).toNat : Int))) := by
    intro k hk
    have hk2 : k < t.size := by rw [List.length_set, len_toList] at hk; exact hk
    show (u4.setCell ⟨g, i, none⟩ (.int .u8 (b'.toNat : Int))).cell? ⟨g, k, none⟩ = _
    by_cases e : i = k
    · subst e
      rw [World.cell?_setCell_same _ _ _ hci]
      simp
    · have hne : (⟨g, i, none⟩ : Addr) ≠ ⟨g, k, none⟩ := by
        intro h
        have := congrArg Addr.off h
        exact e this
      rw [List.getElem_set_ne e]
      exact (set_other hne).trans (HC.out k hk2)
  have b8 : Below w.heap.size w (u4.setCell ⟨g, i, none⟩ (.int .u8 (b'.toNat : Int))).drew := (b7.setCell hwz _).drew
  have hA2 : At (u4.setCell ⟨g, i, none⟩ (.int .u8 (b'.toNat : Int))).drew w.heap.size #[.int .i64 8, .int .i64 0, .int .i64 x, .int .i64 y, .string da] := keepAt hA hne1 i _
  have hX2 : At (u4.setCell ⟨g, i, none⟩ (.int .u8 (b'.toNat : Int))).drew gx #[.int .i64 8, .int .i64 0, .int .i64 x, .int .i64 y, .string da] := keepAt hX hne2 i _
  generalize (u4.setCell ⟨g, i, none⟩ (.int .u8 (b'.toNat : Int))).drew = W2 at *
  clear HC hci hfi HF b7 q1 q1' q2 q3 q4 q5 q6 q7 HX hA hX HSUM
  have HL2 : Hid ((t.data.toList.set i b').length = t.size) := by show (t.data.toList.set i b').length = t.size; rw [List.length_set, len_toList]
  have hwh : (sumS ⟨(t.data.toList.set i b').toArray⟩ == 0) = false := by
    have hn := HNW.out
    have hbd := foldV_bd (ws true (t.data.toList.set i b'))
    unfold sumS missV
    simp only [beq_eq_false_iff_ne, ne_eq]
    omega
  clear HNW
  generalize t.data.toList.set i b' = l at *
  have hcv := run_convert_bytes_back (P := Try.prog) W2 39 9 5 ⟨g, 0, none⟩ c l Try.underlying39 Try.underlying5 Try.underlying9 (by
    intro k hk
    rw [Addr.add_lit, Nat.zero_add]
    exact HC2.out k hk)
  rw [HL2.out] at hcv
  clear HC2
  have hlz : (⟨l.toArray⟩ : ByteArray).size = t.size := by show l.toArray.size = _; simp only [List.size_toArray]; rw [HL2.out]
  have hD2 := fun W => idec_2 (s := ⟨l.toArray⟩) (by rw [hlz]; exact h8) (by rw [hlz]; exact h9) hwh W
  clear hwh hlz
  go_wp2_with fail
  refine (hD2 _).mono ?_
  rintro e w4 ⟨rfl, hb⟩
  have hl := bt (bt b8 hb) (bel1 w4 (.cells #[.int .i64 0, .int .i64 0, .int .i64 0, .int .i64 0, .string ⟨#[]⟩] 23))
  replace hA2 := (hA2.later hb).later (bel1 w4 (.cells #[.int .i64 0, .int .i64 0, .int .i64 0, .int .i64 0, .string ⟨#[]⟩] 23))
  replace hX2 := (hX2.later hb).later (bel1 w4 (.cells #[.int .i64 0, .int .i64 0, .int .i64 0, .int .i64 0, .string ⟨#[]⟩] 23))
  clear hb b8 hcv hD2 hwz hne1 hne2
  obtain ⟨⟨c0, c1, c2, c3, c4⟩, -, -⟩ := hA2.five
  obtain ⟨⟨d0, d1, d2, d3, d4⟩, -, -⟩ := hX2.five
  have hq := mayI_q hm
  have hm0 : askB 0 0 x y da.size = false := by unfold askB; rw [decide_eq_false (by decide)]; rfl
  go_wp2_with fail
  refine (ans_t hm _ hd).mono ?_
  rintro e w5 ⟨rfl, hb⟩
  replace hl := bt (bt hl hb) (bel1 w5 (.cells #[.int .i64 0, .int .i64 0, .int .i64 x, .int .i64 y, .string da] 23))
  replace hA2 := (hA2.later hb).later (bel1 w5 (.cells #[.int .i64 0, .int .i64 0, .int .i64 x, .int .i64 y, .string da] 23))
  have hY := At.box w5 #[.int .i64 0, .int .i64 0, .int .i64 x, .int .i64 y, .string da] 23
  clear hb c0 c1 c2 c3 c4 d0 d1 d2 d3 d4 hX2
  obtain ⟨⟨y0, y1, y2, y3, y4⟩, -, -⟩ := hY.five
  go_wp2_with fail
  refine (ans_f hm0 _ hd).mono ?_
  rintro e w6 ⟨rfl, hb⟩
  replace hl := bt (bt hl hb) (bel1 w6 (.cells #[.int .i64 0, .int .i64 0, .int .i64 0, .int .i64 0, .string ⟨#[]⟩] 23))
  replace hA2 := (hA2.later hb).later (bel1 w6 (.cells #[.int .i64 0, .int .i64 0, .int .i64 0, .int .i64 0, .string ⟨#[]⟩] 23))
  replace hY := (hY.later hb).later (bel1 w6 (.cells #[.int .i64 0, .int .i64 0, .int .i64 0, .int .i64 0, .string ⟨#[]⟩] 23))
  clear hb y0 y1 y2 y3 y4
  obtain ⟨⟨c0, c1, c2, c3, c4⟩, -, -⟩ := hA2.five
  obtain ⟨⟨y0, y1, y2, y3, y4⟩, -, -⟩ := hY.five
  go_wp2
  go_ret
  exact ⟨rfl, hl⟩

theorem walk (ty : Int) (_ : (Lit.int .i64 ty).wf = true) (co : Int) (_ : (Lit.int .i64 co).wf = true) (x : Int) (_ : (Lit.int .i64 x).wf = true) (y : Int) (_ : (Lit.int .i64 y).wf = true) (da : ByteArray) (_ : da.size ≤ maxLen) (hd0 : da.size ≤ 140737488351232) (bit : Int) (_ : (Lit.int .i64 bit).wf = true) (w : World) :
    Calls Try.prog 6 #[.agg #[.int .i64 ty, .int .i64 co, .int .i64 x, .int .i64 y, .string da], .int .i64 bit] w fun e w' => e = .returned (.bool true) ∧ Below w.heap.size w w' := by
  have hd : da.size ≤ 1125899906842624 := by omega
  rcases ask_ways ty co x y da.size with ⟨ha, rfl, rfl, hm⟩ | ⟨ha, hm⟩ | ⟨ha, hm, -⟩ | ⟨ha, hm, -, -⟩
  · exact walk_q x y da bit w hm
  · exact walk_n ty co x y da bit w hd hm
  · exact walk_m ty co x y da bit w hm ha
  · exact walk_m ty co x y da bit w hm ha

set_option maxRecDepth 100000 in
theorem lifted (os : Os) (started : os.Started) (H : Type) (enc : TypeId × Value → H) :
    ReturnsInHanded {} Try.checked os 6 .any (Rows.icmpBackSpec.pre6 enc Try.prog Try.f6 Rows.icmpBackRow.domain false) (Rows.icmpBackSpec.post enc Try.prog Try.f6 false true false false) := by
  refine returnsInHanded_of_change_sized (C := Try.checked) own started (by kernel_rfl) Try.func6
    (ChangeSpec.witness6 (enc := enc) (C := Try.checked) false ⟨#[], #[.agg #[.int .i64 0, .int .i64 0, .int .i64 0, .int .i64 0, .string ByteArray.empty], .int .i64 0], []⟩ 8 (by kernel_rfl) (by kernel_rfl) (by kernel_rfl) (by kernel_rfl)) ?_
  intro W base args ds gs before hval0 hW hcnd hsz0 _
  have hsz : (DataW.weightsEach Try.prog (Try.f6.params.toList ++ Rows.icmpBackSpec.plain.varTypes Try.prog) (ds ++ gs)).all (· ≤ reachBytes) = true := hsz0
  have hval : ∀ (j : Nat) t v, Try.f6.params[j]? = some t → args[j]? = some v → Value.okWide Try.prog W .any base t v := hval0
  have hW' := hW
  obtain ⟨p, q, hA0, hV, rfl, hfz, hnd⟩ := hW
  have hA : DataW.TrodAll enc Try.prog W 0 (fun _ => true) true Try.f6.params.toList args.toList ds p := hA0
  rw [Try.params6] at hA hval hsz
  obtain ⟨v0, vs0, d0, ds0, p0, q0, hargs, rfl, rfl, h0, r0⟩ := trodAll_cons hA
  obtain ⟨v1, vs1, d1, ds1, p1, q1, rfl, rfl, rfl, h1, r1⟩ := trodAll_cons r0
  obtain ⟨rfl, rfl, rfl⟩ := trodAll_nil r1
  obtain rfl : args = #[v0, v1] := by cases args; simp_all
  obtain ⟨rfl, rfl⟩ := trodVars_none hV
  have k0 := h0
  have lt0 : ∀ x ∈ p0, x.block < W.heap.size := by obtain ⟨m, hm⟩ := k0; exact DataW.trod_lt m _ _ _ hm
  have k1 := h1
  have lt1 : ∀ x ∈ p1, x.block < W.heap.size := by obtain ⟨m, hm⟩ := k1; exact DataW.trod_lt m _ _ _ hm
  obtain ⟨f0_0, f0_1, f0_2, f0_3, f0_4, parts0, rfl, hdp0, e0_0, e0_1, e0_2, e0_3, e0_4, m0_4⟩ := open23 (hval 0 23 v0 rfl rfl) h0
  have z0_4 : f0_4.size ≤ 140737488351232 := by
    have := sized_field hsz (j := 0) (i := 4) (t := 23) rfl (by rw [hdp0]; rfl) Try.underlying23 rfl m0_4
    simp only [reachBytes] at this
    simpa using this
  obtain ⟨a1, rfl, -, -, w1⟩ := open_int Try.underlying3 (hval 1 3 v1 rfl rfl) h1
  clear hA0 hval0
  refine (walk f0_0 e0_0 f0_1 e0_1 f0_2 e0_2 f0_3 e0_3 f0_4 e0_4 z0_4 a1 w1 W ).mono fun e W' ⟨he, bel⟩ => ?_
  subst he
  exact ⟨_, rfl, _, _, _, [], _, [], hW', trodAll_mk1 (shut_bool Try.underlying4 _), (trodAll_cons_mk (Below.trod laidOut (by kernel_rfl) (of_decide_eq_true (by kernel_rfl)) k0 bel lt0) (trodAll_cons_mk (Below.trod laidOut (by kernel_rfl) (of_decide_eq_true (by kernel_rfl)) k1 bel lt1) trodAll_mk0)), rfl, bel.frame _, fun h => by cases h⟩

theorem over : Rows.icmpBackRow.holds Try.pinned (OpenSpec.ofChange Rows.icmpBackSpec) :=
  OpenClaim.holds_of_wide 6 Try.f6 rfl rfl rfl rfl rfl rfl rfl ⟨rfl, rfl, rfl, rfl, rfl⟩ rfl rfl rfl rfl rfl (by kernel_rfl) Try.func6 (by kernel_rfl)
    (of_decide_eq_true (by kernel_rfl)) (by unfold Func.isWrapper; first | (rw [if_pos (by decide +kernel)]; kernel_rfl) | (rw [if_neg (by decide +kernel)]; exact ⟨rfl, rfl⟩))
    (fun os started H enc _ => lifted os started H enc)

end Go.Proofs.Ytbbeepkcejiafaa.icmpBack
namespace Go.Proofs.Ytbbeepkcejiafaa
theorem icmpBack_holds : Rows.IcmpBackSaid := icmpBack.over
end Go.Proofs.Ytbbeepkcejiafaa
