/- AppSums: what is added is summed. -/
import Derived.Test.YtadmpdeegnppjaaDoorAm
namespace Go.Proofs.YtadmpdeegnppjaaDoor
open Go.RowKit Go.Maps Go.Shelf Go.Lib
set_option maxRecDepth 100000
set_option linter.unusedVariables false
set_option linter.unusedSimpArgs false


def Arg (w : World) (a : Option Addr) (zs : List Int) : Prop := zs = [] ∨ ∃ x, a = some x ∧ ∀ i, i < zs.length → w.cell? (x.add i) = some (.int .i64 (zs.getD i 0))
def addL (t : By) : By := [65, 68, 68, 32, 97, 32] ++ t ++ [10]
def lineV (z : Int) : By := bVALUE ++ Go.Lib.itoa z ++ [10]
def mS : Option Int → Mp
  | none => []
  | some z => [([97], Go.Lib.itoa z)]
def vS : Option Int → Int
  | none => 0
  | some z => z
def sS (o : Option Int) : St := ⟨mS o, [], false, false⟩
theorem okS (o : Option Int) (h : ∀ z, o = some z → -1000000000 < z ∧ z < 1000000000) : Ok (sS o) := by
  cases o with
  | none => exact ok0
  | some z =>
    have := itoa_len (h z rfl).1 (h z rfl).2
    refine ⟨List.pairwise_singleton _ _, by simp [sS, mS], ?_, by simp [sS]⟩
    intro e he
    have he' : e = ([97], Go.Lib.itoa z) := by simpa [sS, mS] using he
    subst he'
    exact ⟨by simp, by simp only; omega⟩
theorem valS (o : Option Int) : valF (mS o) [97] = (match o with | none => [] | some z => Go.Lib.itoa z) := by
  cases o <;> rfl
theorem numS (o : Option Int) (h : ∀ z, o = some z → -1000000000 < z ∧ z < 1000000000) : numV (valF (mS o) [97]) = vS o := by
  cases o with
  | none => rfl
  | some z =>
    have := h z rfl
    rw [valS]
    simp only
    unfold numV
    rw [num_of (by omega) (by omega)]
    rfl
theorem keepS (o : Option Int) (t told : By) : keepF (mS o) [97] t told = (told, [([97], t)]) := by
  cases o with
  | none => rfl
  | some z =>
    unfold keepF
    rw [if_neg (fun q => by have := q.2; simp [mS] at this)]
    rfl
theorem name32 {k : By} (hk : okName k = true) : ∀ b ∈ k, b ≠ 32 := fun b hb e => by
  unfold okName at hk
  simp only [Bool.and_eq_true] at hk
  have := List.all_eq_true.1 hk.2.2 b hb
  subst e
  simp [okByte] at this
/-- A line of a command, a name and a text. -/
theorem read_three {vb k t : By} (hv : vb = cPUT ∨ vb = cAPP ∨ vb = cADD) (hk : okName k = true) : readF (vb ++ 32 :: (k ++ 32 :: t)) = some (vb, k, t) := by
  have c1 : cutC 32 (vb ++ 32 :: (k ++ 32 :: t)) = (vb, k ++ 32 :: t, true) := cut_of 32 vb _ (by rcases hv with h | h | h <;> subst h <;> decide)
  have c2 : cutC 32 (k ++ 32 :: t) = (k, t, true) := cut_of 32 k _ (name32 hk)
  unfold readF
  rw [c1]
  simp only
  rw [if_pos hv, c2]
  simp only
  rw [if_pos ⟨trivial, hk⟩]
/-- A line of a command and a name. -/
theorem read_two {vb k : By} (hv : vb = cGET ∨ vb = cDEL) (hk : okName k = true) : readF (vb ++ 32 :: k) = some (vb, k, []) := by
  have c1 : cutC 32 (vb ++ 32 :: k) = (vb, k, true) := cut_of 32 vb _ (by rcases hv with h | h <;> subst h <;> decide)
  unfold readF
  rw [c1]
  simp only
  rw [if_neg (by rcases hv with h | h <;> subst h <;> decide), if_pos hv, if_pos hk]
theorem no10 {z : Int} : ∀ b ∈ Go.Lib.itoa z, b ≠ 10 := fun b hb e => by
  subst e
  rcases itoa_byte _ hb with h | h
  · cases h
  · simp at h
theorem take_add (o : Option Int) (h : ∀ z, o = some z → -1000000000 < z ∧ z < 1000000000) (n : Int) (h0 : -1000000000 < n) (h1 : n < 1000000000) :
    takeF (sS o) (addL (Go.Lib.itoa n)) = if -1000000000 < vS o + n ∧ vS o + n < 1000000000 then (lineV (vS o + n), sS (some (vS o + n))) else ([66, 65, 68, 10], sS o) := by
  have hl := itoa_len h0 h1
  have hn10 : ∀ b ∈ ([65, 68, 68, 32, 97, 32] ++ Go.Lib.itoa n : By), b ≠ 10 := fun b hb => by
    rcases List.mem_append.1 hb with hb | hb
    · intro e; subst e; revert hb; decide
    · exact no10 b hb
  have t1 := take_line (sS o) ([65, 68, 68, 32, 97, 32] ++ Go.Lib.itoa n) [] rfl (by simp [sS]) hn10
  have e1 : addL (Go.Lib.itoa n) = ([65, 68, 68, 32, 97, 32] ++ Go.Lib.itoa n) ++ 10 :: [] := rfl
  rw [e1, t1]
  have e2 : gath (sS o) ([65, 68, 68, 32, 97, 32] ++ Go.Lib.itoa n) = ⟨mS o, [65, 68, 68, 32, 97, 32] ++ Go.Lib.itoa n, false, false⟩ := by
    unfold gath sS
    have hq : ([65, 68, 68, 32, 97, 32] ++ Go.Lib.itoa n : By).length ≤ 256 := by rw [List.length_append]; simp only [List.length_cons, List.length_nil]; omega
    rw [List.take_of_length_le (by simpa using hq), decide_eq_false (by simp only [List.length_nil]; omega)]
    rfl
  rw [e2]
  have hr : readF ([65, 68, 68, 32, 97, 32] ++ Go.Lib.itoa n) = some (cADD, [97], Go.Lib.itoa n) := read_three (vb := cADD) (k := [97]) (Or.inr (Or.inr rfl)) (by decide)
  have ha : addF (mS o) [97] (Go.Lib.itoa n) = if -1000000000 < vS o + n ∧ vS o + n < 1000000000 then (bVALUE ++ Go.Lib.itoa (vS o + n), mS (some (vS o + n))) else (bBAD, mS o) := by
    unfold addF
    rw [num_of (by omega) (by omega), numS o h]
    simp only
    by_cases hc : -1000000000 < vS o + n ∧ vS o + n < 1000000000
    · rw [if_pos hc, if_pos (by omega), keepS]
      rfl
    · rw [if_neg hc, if_neg (by omega)]
  have hans : ansF (mS o) ([65, 68, 68, 32, 97, 32] ++ Go.Lib.itoa n) = ((addF (mS o) [97] (Go.Lib.itoa n)).1, (addF (mS o) [97] (Go.Lib.itoa n)).2, false) := by
    unfold ansF
    rw [hr]
    rfl
  have he : endF ⟨mS o, [65, 68, 68, 32, 97, 32] ++ Go.Lib.itoa n, false, false⟩ = ((addF (mS o) [97] (Go.Lib.itoa n)).1, ⟨(addF (mS o) [97] (Go.Lib.itoa n)).2, [], false, false⟩) := by
    unfold endF
    rw [if_neg (by exact Bool.false_ne_true)]
    simp only
    rw [hans]
  rw [he, ha]
  by_cases hc : -1000000000 < vS o + n ∧ vS o + n < 1000000000
  · rw [if_pos hc, if_pos hc]
    simp [takeF, sS, lineV]
  · rw [if_neg hc, if_neg hc]
    simp [takeF, sS]
def gS (o : Option Int) : By := match o with | none => bNONE | some z => bVALUE ++ Go.Lib.itoa z
theorem take_get (o : Option Int) : takeF (sS o) [71, 69, 84, 32, 97, 10] = (gS o ++ [10], sS o) := by
  have t1 := take_line (sS o) [71, 69, 84, 32, 97] [] rfl (by simp [sS]) (by decide)
  have e1 : ([71, 69, 84, 32, 97, 10] : By) = [71, 69, 84, 32, 97] ++ 10 :: [] := rfl
  rw [e1, t1]
  have he : endF (gath (sS o) [71, 69, 84, 32, 97]) = (gS o, sS o) := by
    cases o with
    | none => kernel_rfl
    | some z => rfl
  rw [he]
  simp [takeF]

section
variable {w : World}
set_option maxHeartbeats 4000000 in
theorem sums_any (a : Option Addr) (cap : Nat) (zs0 : List Int) (hE : Env w) (hi : Arg w a zs0) (hz : zs0.length * 8 ≤ 140737488351232) :
    Calls Tryd.prog 5 #[.slice a zs0.length cap] w fun e w' => e = .returned (.bool true) ∧ Below w.heap.size w w' := by
  have HA : Hid (Arg w a zs0) := hi
  clear hi
  obtain ⟨n, hn⟩ : ∃ n, n = zs0.length := ⟨_, rfl⟩
  rw [← hn] at hz ⊢
  have HN : Hid (n = zs0.length) := hn
  clear hn
  have HE : Hid _ := hE
  clear hE
  go_enter Tryd.func5, Tryd.ntmps5
  go_wp2_with fail
  refine (new_any HE.out).mono ?_
  rintro e w1 ⟨b, A, rfl, h1, hb1, hA1⟩
  go_wp2_with fail
  refine (works_any (HE.out.later hb1)).mono ?_
  rintro e w2 ⟨rfl, hb2⟩
  have h2 := h1.later hb2
  have hw2 := bt hb1 hb2
  have H2 : Hid _ := And.intro h2 hw2
  clear h1 h2 hb1 hb2 hw2
  go_wp2
  go_loopw [4, 5] (fun x i wr => ∃ (k : Nat) (o : Option Int) (A' : Bk), k ≤ n ∧ k ≤ 40 ∧ i = .int .i64 (k : Int) ∧ x = .int .i64 (vS o) ∧ (∀ z, o = some z → -1000000000 < z ∧ z < 1000000000) ∧ (k = 0 ∨ o ≠ none) ∧ (o ≠ none → 0 < n) ∧ SX wr A' b (sS o) ∧ Below w.heap.size w wr ∧ ∀ q, A' q → w.heap.size ≤ q) (fun _ i _ => n - (intOf i).toNat)
  case atStart => exact ⟨0, none, A, Nat.zero_le _, Nat.zero_le _, rfl, rfl, (fun z h => by cases h), Or.inl rfl, (fun h => absurd rfl h), H2.out.1, H2.out.2, hA1⟩
  case round =>
    obtain ⟨k, o, A', hkn, hk40, rfl, rfl, ho, hk0, hon, hX, hb, hA'⟩ := hrel
    have HX : Hid (SX wr A' b (sS o)) := hX
    have HB : Hid (Below w.heap.size w wr) := hb
    have HO : Hid (∀ z, o = some z → -1000000000 < z ∧ z < 1000000000) := ho
    have hv : -1000000000 < vS o ∧ vS o < 1000000000 := by
      cases o with
      | none => decide
      | some z => exact ho z rfl
    obtain ⟨hv0, hv1⟩ := hv
    by_cases hlt : k < n ∧ k < 40
    rotate_left
    · have hT := take_any hX (HE.out.later hb) (okS o ho) rfl [71, 69, 84, 32, 97, 10] (by decide)
      rw [take_get] at hT
      have hit := fun (W : World) (hW : Env W) => itoa_any hW (vS o) (by omega) (by omega)
      have hlast : ¬ (k : Int) < (n : Int) ∨ ((k : Int) < (n : Int) ∧ ¬ (k : Int) < 40) := by omega
      clear hX hb ho
      cases hoo : o with
      | none =>
        have hn0 : n = 0 := by
          rcases hk0 with h | h
          · omega
          · exact absurd hoo h
        subst hn0
        have hk : k = 0 := by omega
        subst hk
        subst hoo
        have q : ((B (gS none ++ [10])).toList == [78, 79, 78, 69, 10]) = true := B_q rfl
        go_wp2_with fail
        refine hT.mono ?_
        rintro e w3 ⟨rfl, A3, h3, t3, g3⟩
        have hb3 : Below w.heap.size w w3 := HB.out.trans (t3.below HB.out.size (fun k hk e => by have := hA' k e; omega))
        clear h3 t3 g3 hT
        go_wp2
        go_ret
        exact ⟨rfl, hb3⟩
      | some z =>
        have hn0 : 0 < n := hon (by rw [hoo]; exact fun h => by cases h)
        have hn1 : ((n : Int) == 0) = false := beq_eq_false_iff_ne.2 (by omega)
        subst hoo
        have hil := itoa_len (v := z) (by have := HO.out z rfl; omega) (by have := HO.out z rfl; omega)
        have hz1 : (B (Go.Lib.itoa (vS (some z)))).size ≤ 1000 := by rw [B_size]; have : (Go.Lib.itoa (vS (some z))).length ≤ 10 := hil; omega
        have hap : Hid (B bVALUE ++ B (Go.Lib.itoa (vS (some z))) ++ B [10] = B (gS (some z) ++ [10])) := by show B bVALUE ++ B (Go.Lib.itoa (vS (some z))) ++ B [10] = B (gS (some z) ++ [10]); rw [B_app, B_app]; rfl
        rcases hlast with hq | ⟨hq, hq2⟩
        all_goals
          go_wp2_with fail
          refine hT.mono ?_
          rintro e w3 ⟨rfl, A3, h3, t3, g3⟩
          have hb3 : Below w.heap.size w w3 := HB.out.trans (t3.below HB.out.size (fun k hk e => by have := hA' k e; omega))
          clear h3 t3 g3 hT
          have q : ((B (gS (some z) ++ [10])).toList == ((⟨#[86, 65, 76, 85, 69, 32]⟩ : ByteArray) ++ B (Go.Lib.itoa (vS (some z))) ++ (⟨#[10]⟩ : ByteArray)).toList) = true := by
            have e : ((⟨#[86, 65, 76, 85, 69, 32]⟩ : ByteArray) ++ B (Go.Lib.itoa (vS (some z))) ++ (⟨#[10]⟩ : ByteArray)) = B (gS (some z) ++ [10]) := hap.out
            rw [e, B_eq]; exact beq_self_eq_true _
          go_wp2_with fail
          refine (hit w3 (HE.out.later hb3)).mono ?_
          rintro e w4 ⟨rfl, hb4⟩
          go_wp2
          go_ret
          exact ⟨rfl, hb3.trans (hb4.mono hb3.size)⟩
    obtain ⟨hk1', hk2'⟩ := hlt
    have hk1 : (k : Int) < (n : Int) := by omega
    have hk2 : (k : Int) < 40 := by omega
    have hk3 : (0 : Int) ≤ (k : Int) := by omega
    obtain ⟨ax, rfl, hcell⟩ : ∃ x, a = some x ∧ ∀ i, i < zs0.length → w.cell? (x.add i) = some (.int .i64 (zs0.getD i 0)) := by
      rcases HA.out with h | h
      · rw [h] at HN
        have := HN.out
        simp at this
        omega
      · exact h
    have cx := later hb (hcell k (by have := HN.out; omega))
    generalize zs0.getD k 0 = z0 at *
    clear hcell
    obtain ⟨-, hx0, hx1⟩ := tmod_round z0 1000000000 (by decide)
    have hit := itoa_any (HE.out.later hb) (z0.tmod 1000000000) (by omega) (by omega)
    have hil := itoa_len hx0 hx1
    have htk := take_add o ho (z0.tmod 1000000000) hx0 hx1
    have hza : (B (Go.Lib.itoa (z0.tmod 1000000000))).size ≤ 1000 := by rw [B_size]; omega
    have hap : Hid ((⟨#[65, 68, 68, 32, 97, 32]⟩ : ByteArray) ++ B (Go.Lib.itoa (z0.tmod 1000000000)) ++ (⟨#[10]⟩ : ByteArray) = B (addL (Go.Lib.itoa (z0.tmod 1000000000)))) := by
      have e : B [65, 68, 68, 32, 97, 32] ++ B (Go.Lib.itoa (z0.tmod 1000000000)) ++ B [10] = B (addL (Go.Lib.itoa (z0.tmod 1000000000))) := by rw [B_app, B_app]; rfl
      exact e
    have hal : (addL (Go.Lib.itoa (z0.tmod 1000000000))).length ≤ 65536 := by unfold addL; rw [List.length_append, List.length_append]; simp only [List.length_cons, List.length_nil]; omega
    go_wp2_with fail
    refine hit.mono ?_
    rintro e w1 ⟨rfl, hbi⟩
    have hb1 := hb.trans (hbi.mono hb.size)
    have hT := take_any (hX.later hbi) (HE.out.later hb1) (okS o ho) rfl _ hal
    rw [htk] at hT
    have HB1 : Hid _ := hb1
    generalize z0.tmod 1000000000 = x at *
    by_cases hc : -1000000000 < vS o + x ∧ vS o + x < 1000000000
    · rw [if_pos hc] at hT
      obtain ⟨hc1, hc2⟩ := hc
      have hil2 := itoa_len hc1 hc2
      have hzb : (B (Go.Lib.itoa (vS o + x))).size ≤ 1000 := by rw [B_size]; omega
      have q : ((B (lineV (vS o + x))).toList == ((⟨#[86, 65, 76, 85, 69, 32]⟩ : ByteArray) ++ B (Go.Lib.itoa (vS o + x)) ++ (⟨#[10]⟩ : ByteArray)).toList) = true := by
        have e : B bVALUE ++ B (Go.Lib.itoa (vS o + x)) ++ B [10] = B (lineV (vS o + x)) := by rw [B_app, B_app]; rfl
        have e' : ((⟨#[86, 65, 76, 85, 69, 32]⟩ : ByteArray) ++ B (Go.Lib.itoa (vS o + x)) ++ (⟨#[10]⟩ : ByteArray)) = B (lineV (vS o + x)) := e
        rw [e', B_eq]; exact beq_self_eq_true _
      have hi2 := fun (W : World) (hW : Env W) => itoa_any hW (vS o + x) (by omega) (by omega)
      go_wp2_with fail
      rw [hap.out]
      refine hT.mono ?_
      rintro e w3 ⟨rfl, A3, h3, t3, g3⟩
      have hb3 : Below w.heap.size w w3 := HB1.out.trans (t3.below HB1.out.size (fun k hk e => by have := hA' k e; omega))
      have hge3 : ∀ q, A3 q → w.heap.size ≤ q := fun q hq => by
        rcases g3 q hq with h | h
        · exact hA' q h
        · have := HB1.out.size; omega
      have H3 : Hid _ := And.intro h3 (And.intro hb3 hge3)
      clear h3 t3 g3 hT hb3 hge3 hb1 hb hX cx hbi hit htk
      go_wp2_with fail
      refine (hi2 w3 (HE.out.later H3.out.2.1)).mono ?_
      rintro e w4 ⟨rfl, hb4⟩
      have hb5 := H3.out.2.1.trans (hb4.mono H3.out.2.1.size)
      have HB4 : Hid _ := And.intro hb4 hb5
      clear hb4 hb5
      go_wp2
      go_roundw
      case rel =>
        refine ⟨k + 1, some (vS o + x), A3, by omega, by omega, by first | rfl | simp, rfl, (fun z h => by cases h; exact ⟨hc1, hc2⟩), Or.inr (fun h => by cases h), (fun _ => by omega), H3.out.1.later HB4.out.1, HB4.out.2, H3.out.2.2⟩
      case measure => show n - ((k : Int) + 1).toNat < n - (k : Int).toNat; omega
    · rw [if_neg hc] at hT
      have q : ((B [66, 65, 68, 10]).toList == [66, 65, 68, 10]) = true := B_q rfl
      have hcc : ¬ -1000000000 < vS o + x ∨ (-1000000000 < vS o + x ∧ ¬ vS o + x < 1000000000) := by omega
      clear hc
      have hon2 : k + 1 ≤ n := by omega
      have hoo : o ≠ none := fun h => by
        subst h
        have : vS none = 0 := rfl
        omega
      rcases hcc with hc1 | ⟨hc1, hc2⟩
      all_goals
        go_wp2_with fail
        rw [hap.out]
        refine hT.mono ?_
        rintro e w3 ⟨rfl, A3, h3, t3, g3⟩
        have hb3 : Below w.heap.size w w3 := HB1.out.trans (t3.below HB1.out.size (fun k hk e => by have := hA' k e; omega))
        have hge3 : ∀ q, A3 q → w.heap.size ≤ q := fun q hq => by
          rcases g3 q hq with h | h
          · exact hA' q h
          · have := HB1.out.size; omega
        have H3 : Hid _ := And.intro h3 (And.intro hb3 hge3)
        clear h3 t3 g3 hT hb3 hge3 hb1 hb hX cx hbi hit htk
        go_wp2
        go_roundw
        case rel =>
          refine ⟨k + 1, o, A3, by omega, by omega, by first | rfl | simp, rfl, HO.out, Or.inr hoo, hon, H3.out.1, H3.out.2.1, H3.out.2.2⟩
        case measure => show n - ((k : Int) + 1).toNat < n - (k : Int).toNat; omega
end
end Go.Proofs.YtadmpdeegnppjaaDoor
