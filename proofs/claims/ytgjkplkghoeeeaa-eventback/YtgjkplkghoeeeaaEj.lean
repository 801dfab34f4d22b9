/- A log's bytes, on both sides. -/
import Derived.Test.YtgjkplkghoeeeaaEi
import Derived.Test.YtgjkplkghoeeeaaBu
namespace Go.Proofs.Ytgjkplkghoeeeaa
open Go.RowKit Go.Maps
set_option maxRecDepth 100000
set_option linter.unusedVariables false
set_option linter.unusedSimpArgs false

theorem isB_later {T e : TypeId} {B b : Nat} {bs : List Value} {w x : World} (h : Lib.IsBuilderF T e B b bs w) (hb : Below w.heap.size w x) : Lib.IsBuilderF T e B b bs x := by
  have go : ∀ p, Lib.BuilderAtF T e B b p bs w → Lib.BuilderAtF T e B b p bs x := fun p h => by
    obtain ⟨hB, v, hh, ⟨hl, hown⟩, hne⟩ := h
    refine ⟨hB, v, (hb.block b (Array.getElem?_eq_some_iff.1 hh).1).trans hh, ⟨hl, ?_⟩, hne⟩
    rcases hown with h | ⟨g, cap, cur, fz, e1, e2, e3, e4⟩
    · exact Or.inl h
    · exact Or.inr ⟨g, cap, cur, fz, e1, e2, (hb.block g (Array.getElem?_eq_some_iff.1 e3).1).trans e3, e4⟩
  rcases h with h | h
  · exact Or.inl (go _ h)
  · exact Or.inr (go _ h)

theorem ba_eta (s : ByteArray) : (⟨s.data.toList.toArray⟩ : ByteArray) = s := rfl
theorem catE_bd : ∀ (l : List Ev), (∀ x ∈ l, mayE x = true) → (catE l).size ≤ 1523 * l.length
  | [], _ => by decide
  | x :: l, h => by
    have := catE_bd l (fun y hy => h y (List.mem_cons_of_mem _ hy))
    have hx := mayE_size (h x List.mem_cons_self)
    rw [catE_size_cons, List.length_cons]
    omega
theorem drop_at (l : List Ev) (D j : Nat) : (l.drop D)[j]? = l[D + j]? := List.getElem?_drop
theorem take_bd {l : List Ev} (hm : ∀ x ∈ l, mayE x = true) (D j : Nat) : (catE ((l.drop D).take j)).size ≤ 1523 * j := by
  have := catE_bd ((l.drop D).take j) (fun x hx => hm x (List.mem_of_mem_drop (List.mem_of_mem_take hx)))
  rw [List.length_take] at this
  have h2 : min j (l.drop D).length ≤ j := Nat.min_le_left _ _
  have := Nat.mul_le_mul_left 1523 h2
  omega
theorem take_pos {l : List Ev} {D j : Nat} (hj : D + j ≤ l.length) (h0 : 0 < j) : 0 < (catE ((l.drop D).take j)).size := by
  cases hq : (l.drop D).take j with
  | nil =>
    have := congrArg List.length hq
    rw [List.length_take, List.length_drop] at this
    simp at this
    omega
  | cons x r => rw [catE_size_cons]; omega
set_option maxHeartbeats 4000000 in
theorem bytes_any {w : World} {b : Nat} {v : Value} {l : List Ev} (fr most : Int) (h : LG w b v l) (hl : l.length ≤ 1000) (hm : ∀ x ∈ l, mayE x = true) (m0 : (Lit.int .i64 most).wf = true) :
    Calls Try.prog 22 #[.pointer (some ⟨b, 0, none⟩), .int .i64 fr, .int .i64 most] w fun e w' => e = .returned (.tuple #[.string (byS l fr most), .int .i64 (fromV fr + byN l fr most)]) ∧ Below w.heap.size w w' := by
  obtain ⟨D, hD, hm1, hm2⟩ := fromV_nat fr
  have eS : byS l fr most = catE ((l.drop D).take (byN l fr most)) := by unfold byS; rw [hD, show ((D : Int) + 1 - 1).toNat = D by omega]
  have eN : byN l fr most = takeN most 0 true (l.drop D) := by unfold byN; rw [hD, show ((D : Int) + 1 - 1).toNat = D by omega]
  rw [eS, hD]
  generalize byN l fr most = N at *
  have EN : Hid (N = takeN most 0 true (l.drop D)) := eN
  have HM : Hid (∀ x ∈ l, mayE x = true) := hm
  clear eS eN hD
  obtain ⟨B, hB⟩ : ∃ B, B = w.heap.size := ⟨_, rfl⟩
  have hB0 : Lib.IsBuilderF 61 5 w.heap.size w.heap.size (Lib.byteCells []) (w.alloc (.cells #[.pointer none, .slice none 0 0] 61)) := Lib.IsBuilderF.of (Lib.fresh_isBuilder 61 5 w)
  have hb0 := bel1 w (.cells #[.pointer none, .slice none 0 0] 61)
  have hsz : w.heap.size < (w.alloc (.cells #[.pointer none, .slice none 0 0] 61)).heap.size := by simp
  clear hB
  go_enter Try.func22, Try.ntmps22
  go_wp2
  generalize w.alloc (.cells #[.pointer none, .slice none 0 0] 61) = W0 at *
  go_loopw [7] (fun c wr => ∃ j : Nat, c = .int .i64 (((D + j : Nat) : Int) + 1) ∧ j ≤ N ∧ (0 < j → D + j ≤ l.length) ∧ N = j + takeN most (catE ((l.drop D).take j)).size (j == 0) ((l.drop D).drop j) ∧ Lib.IsBuilderF 61 5 w.heap.size w.heap.size (Lib.byteCells (catE ((l.drop D).take j)).data.toList) wr ∧ Below w.heap.size w wr ∧ w.heap.size < wr.heap.size) (fun c _ => l.length + 1 - (intOf c).toNat)
  case atStart => exact ⟨0, by simp, Nat.zero_le _, fun h => absurd h (Nat.lt_irrefl _), by show N = 0 + takeN most 0 true (l.drop D); rw [Nat.zero_add]; exact EN, hB0, hb0, hsz⟩
  case round =>
    clear hB0 hb0 hsz
    have hm : ∀ x ∈ l, mayE x = true := HM
    obtain ⟨j, rfl, hj, hjl, hN, hBu, hb, hbs⟩ := hrel
    have hS := take_bd hm D j
    by_cases hlt : D + j < l.length
    · obtain ⟨x, hx⟩ : ∃ x, l[D + j]? = some x := ⟨_, List.getElem?_eq_getElem hlt⟩
      have hxd : (l.drop D)[j]? = some x := by rw [drop_at]; exact hx
      have hmx := hm x (List.mem_of_getElem? hx)
      have hz := mayE_size hmx
      have hct := catE_take hxd
      have hes := encE_size x
      have hkl : (((D + j : Nat) : Int) + 1 ≤ (l.length : Int)) := by omega
      have hkw : IntKind.i64.wrap (((D + j : Nat) : Int)) = ((D + j : Nat) : Int) := by rw [IntKind.wrap_i64]; omega
      have hL := h.later hb
      obtain ⟨g, cap, hv, -, hr⟩ := hL.eo.cells hx
      have hv0 := hv
      subst hv
      obtain ⟨c0, -⟩ := hL.at_.one
      obtain ⟨K, T, d⟩ := x
      have r0 : wr.cell? ⟨g, (D + j) * 3, none⟩ = some (.int .i64 K) := hr 0 _ rfl
      have r1 : wr.cell? ⟨g, (D + j) * 3 + 1, none⟩ = some (.int .i64 T) := hr 1 _ rfl
      have r2 : wr.cell? ⟨g, (D + j) * 3 + 2, none⟩ = some (.string d) := hr 2 _ rfl
      have HCT : Hid (catE ((l.drop D).take (j + 1)) = catE ((l.drop D).take j) ++ encE ⟨K, T, d⟩) := hct
      have HX : Hid ((l.drop D)[j]? = some (Ev.mk K T d)) := hxd
      have HN : Hid (N = j + takeN most (catE ((l.drop D).take j)).size (j == 0) ((l.drop D).drop j)) := hN
      simp only at hz hes
      have hln := len_any hL
      clear hm hx hxd hct hN hr hv0
      go_wp2_with fail
      refine hln.mono ?_
      rintro e w1 ⟨rfl, hw1⟩
      subst hw1
      clear hln
      go_wp2_with fail
      refine (encode_any K T d _ hmx).mono ?_
      rintro e w2 ⟨rfl, hb2⟩
      clear c0 r0 r1 r2
      have hBu := isB_later hBu hb2
      have hb := hb.trans (hb2.mono (Nat.le_of_lt hbs))
      have hbs : w.heap.size < w2.heap.size := Nat.lt_of_lt_of_le hbs hb2.size
      clear hb2 hL
      obtain ⟨E, hE⟩ : ∃ E, encE ⟨K, T, d⟩ = E := ⟨_, rfl⟩
      rw [hE] at HCT hes ⊢
      have HE : Hid (encE ⟨K, T, d⟩ = E) := hE
      clear hE
      have hwl : (Lib.byteCells (catE ((l.drop D).take j)).data.toList).length + E.size ≤ 140737488355328 := by rw [Lib.byteCells_length, len_toList]; omega
      have hwr := fun W (hB : Lib.IsBuilderF 61 5 w.heap.size w.heap.size (Lib.byteCells (catE ((l.drop D).take j)).data.toList) W) (hW : w.heap.size ≤ W.heap.size) => write_any w.heap.size w.heap.size _ E W hB hwl hW
      have hst := fun W (hB : Lib.IsBuilderF 61 5 w.heap.size w.heap.size (Lib.byteCells (catE ((l.drop D).take j)).data.toList) W) (hW : w.heap.size ≤ W.heap.size) => string_any w.heap.size w.heap.size _ W hB hW
      have hbl := fun W (hB : Lib.IsBuilderF 61 5 w.heap.size w.heap.size (Lib.byteCells (catE ((l.drop D).take j)).data.toList) W) => blen_any w.heap.size w.heap.size _ W hB
      rw [Lib.byteCells_length, len_toList] at hbl
      by_cases hj0 : j = 0
      · have t1 : decide (((D : Nat) : Int) + 1 < ((D + j : Nat) : Int) + 1) = false := decide_eq_false (by omega)
        go_wp2_with fail
        refine (hwr _ hBu (Nat.le_of_lt hbs)).mono ?_
        rintro e w5 ⟨rfl, hB5, hb5⟩
        clear hwr hst hbl
        go_wp2
        go_roundw
        case rel =>
          have e1 := takeN_first (most := most) (a := (catE ((l.drop D).take j)).size) (show (l.drop D)[j]? = some (Ev.mk K T d) from HX)
          have hN : N = j + takeN most (catE ((l.drop D).take j)).size (j == 0) ((l.drop D).drop j) := HN
          rw [show (j == 0) = true by simpa using hj0, e1, show encE ⟨K, T, d⟩ = E from HE] at hN
          exact ⟨j + 1, rel_int (by omega), by omega, fun _ => by omega, by
            rw [show catE ((l.drop D).take (j + 1)) = catE ((l.drop D).take j) ++ E from HCT, ByteArray.size_append, show (j + 1 == 0) = false by simp]; omega, by
            rw [show catE ((l.drop D).take (j + 1)) = catE ((l.drop D).take j) ++ E from HCT, app_toList, Lib.byteCells_append, ← Lib.strCells_eq]; exact hB5, hb.trans hb5, Nat.lt_of_lt_of_le hbs hb5.size⟩
        case measure => simp [intOf]; omega
      · have t1 : decide (((D : Nat) : Int) + 1 < ((D + j : Nat) : Int) + 1) = true := decide_eq_true (by omega)
        by_cases hmo : most < (((catE ((l.drop D).take j)).size + E.size : Nat) : Int)
        · have t2 : decide (most < (((catE ((l.drop D).take j)).size : Nat) : Int) + ((E.size : Nat) : Int)) = true := decide_eq_true (by omega)
          go_wp2_with fail
          refine (hbl _ hBu).mono ?_
          rintro e w3 ⟨rfl, hw3⟩
          subst hw3
          go_wp2_with fail
          refine (hst _ hBu (Nat.le_of_lt hbs)).mono ?_
          rintro e w4 ⟨rfl, hb4, -⟩
          go_wp2
          go_ret2
          have e1 := takeN_stop (most := most) (a := (catE ((l.drop D).take j)).size) (show (l.drop D)[j]? = some (Ev.mk K T d) from HX) (by rw [show encE ⟨K, T, d⟩ = E from HE]; exact hmo)
          have hN : N = j + takeN most (catE ((l.drop D).take j)).size (j == 0) ((l.drop D).drop j) := HN
          rw [show (j == 0) = false by simpa using hj0, e1] at hN
          exact ⟨by rw [hN]; show Ending.returned (.tuple #[.string _, .int .i64 (((D + j : Nat) : Int) + 1)]) = .returned (.tuple #[.string _, .int .i64 ((D : Int) + 1 + ((j + 0 : Nat) : Int))]); rw [show (((D + j : Nat) : Int) + 1) = (D : Int) + 1 + ((j + 0 : Nat) : Int) by omega]; rfl, hb.trans hb4⟩
        · have t2 : decide (most < (((catE ((l.drop D).take j)).size : Nat) : Int) + ((E.size : Nat) : Int)) = false := decide_eq_false (by omega)
          go_wp2_with fail
          refine (hbl _ hBu).mono ?_
          rintro e w3 ⟨rfl, hw3⟩
          subst hw3
          go_wp2_with fail
          refine (hwr _ hBu (Nat.le_of_lt hbs)).mono ?_
          rintro e w5 ⟨rfl, hB5, hb5⟩
          clear hwr hst hbl
          go_wp2
          go_roundw
          case rel =>
            have e1 := takeN_step (most := most) (a := (catE ((l.drop D).take j)).size) (show (l.drop D)[j]? = some (Ev.mk K T d) from HX) (by rw [show encE ⟨K, T, d⟩ = E from HE]; omega)
            have hN : N = j + takeN most (catE ((l.drop D).take j)).size (j == 0) ((l.drop D).drop j) := HN
            rw [show (j == 0) = false by simpa using hj0, e1, show encE ⟨K, T, d⟩ = E from HE] at hN
            exact ⟨j + 1, rel_int (by omega), by omega, fun _ => by omega, by
              rw [show catE ((l.drop D).take (j + 1)) = catE ((l.drop D).take j) ++ E from HCT, ByteArray.size_append, show (j + 1 == 0) = false by simp]; omega, by
              rw [show catE ((l.drop D).take (j + 1)) = catE ((l.drop D).take j) ++ E from HCT, app_toList, Lib.byteCells_append, ← Lib.strCells_eq]; exact hB5, hb.trans hb5, Nat.lt_of_lt_of_le hbs hb5.size⟩
          case measure => simp [intOf]; omega
    · have hL := h.later hb
      have hln := len_any hL
      have hkl : ¬ (((D + j : Nat) : Int) + 1 ≤ (l.length : Int)) := by omega
      have t1 : decide (((D + j : Nat) : Int) + 1 ≤ (l.length : Int)) = false := decide_eq_false hkl
      have hst := fun W (hB : Lib.IsBuilderF 61 5 w.heap.size w.heap.size (Lib.byteCells (catE ((l.drop D).take j)).data.toList) W) (hW : w.heap.size ≤ W.heap.size) => string_any w.heap.size w.heap.size _ W hB hW
      have e1 : takeN most (catE ((l.drop D).take j)).size (j == 0) ((l.drop D).drop j) = 0 := takeN_end (by rw [List.length_drop]; omega)
      rw [e1] at hN
      have HN : Hid (N = j + 0) := hN
      clear hm hN e1 hkl
      go_wp2_with fail
      refine hln.mono ?_
      rintro e w1 ⟨rfl, hw1⟩
      subst hw1
      go_wp2_with fail
      refine (hst _ hBu (Nat.le_of_lt hbs)).mono ?_
      rintro e w4 ⟨rfl, hb4, -⟩
      go_wp2
      go_ret2
      have hN : N = j + 0 := HN
      exact ⟨by rw [hN]; show Ending.returned (.tuple #[.string _, .int .i64 (((D + j : Nat) : Int) + 1)]) = .returned (.tuple #[.string _, .int .i64 ((D : Int) + 1 + ((j + 0 : Nat) : Int))]); rw [show (((D + j : Nat) : Int) + 1) = (D : Int) + 1 + ((j + 0 : Nat) : Int) by omega]; rfl, hb.trans hb4⟩
end Go.Proofs.Ytgjkplkghoeeeaa
