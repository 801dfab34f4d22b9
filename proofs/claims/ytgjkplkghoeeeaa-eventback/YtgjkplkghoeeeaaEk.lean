/- The document's bytes of a log. -/
import Derived.Test.YtgjkplkghoeeeaaEj
namespace Go.Proofs.Ytgjkplkghoeeeaa
open Go.RowKit Go.Maps
set_option maxRecDepth 100000
set_option linter.unusedVariables false
set_option linter.unusedSimpArgs false

set_option maxHeartbeats 4000000 in
theorem rbytes_any {w : World} {b : Nat} {v : Value} {l : List Ev} (fr most : Int) (h : LG w b v l) (hl : l.length ≤ 1000) (hm : ∀ x ∈ l, mayE x = true) (m0 : (Lit.int .i64 most).wf = true) :
    Calls Try.prog 23 #[.pointer (some ⟨b, 0, none⟩), .int .i64 fr, .int .i64 most] w fun e w' => e = .returned (.tuple #[.string (byS l fr most), .int .i64 (fromV fr + byN l fr most)]) ∧ Below w.heap.size w w' := by
  obtain ⟨D, hD, hm1, hm2⟩ := fromV_nat fr
  have eS : byS l fr most = catE ((l.drop D).take (byN l fr most)) := by unfold byS; rw [hD, show ((D : Int) + 1 - 1).toNat = D by omega]
  have eN : byN l fr most = takeN most 0 true (l.drop D) := by unfold byN; rw [hD, show ((D : Int) + 1 - 1).toNat = D by omega]
  rw [eS, hD]
  generalize byN l fr most = N at *
  have EN : Hid (N = takeN most 0 true (l.drop D)) := eN
  have HM : Hid (∀ x ∈ l, mayE x = true) := hm
  clear eS eN hD
  go_enter Try.func23, Try.ntmps23
  go_wp2
  go_loopw [1, 8, 9] (fun c1 c8 c9 wr => ∃ j : Nat, c1 = .int .i64 (((D + j : Nat) : Int) + 1) ∧ c8 = .string (catE ((l.drop D).take j)) ∧ c9 = .int .i64 (((D + j : Nat) : Int) + 1) ∧ j ≤ N ∧ (0 < j → D + j ≤ l.length) ∧ N = j + takeN most (catE ((l.drop D).take j)).size (j == 0) ((l.drop D).drop j) ∧ Below w.heap.size w wr) (fun _ _ c _ => l.length + 1 - (intOf c).toNat)
  case atStart => exact ⟨0, by simp, rfl, by simp, Nat.zero_le _, fun h => absurd h (Nat.lt_irrefl _), by show N = 0 + takeN most 0 true (l.drop D); rw [Nat.zero_add]; exact EN, Below.refl _ _⟩
  case round =>
    have hm : ∀ x ∈ l, mayE x = true := HM
    obtain ⟨j, rfl, rfl, rfl, hj, hjl, hN, hb⟩ := hrel
    have hS := take_bd hm D j
    by_cases hlt : D + j < l.length
    · obtain ⟨x, hx⟩ : ∃ x, l[D + j]? = some x := ⟨_, List.getElem?_eq_getElem hlt⟩
      have hxd : (l.drop D)[j]? = some x := by rw [drop_at]; exact hx
      have hmx := hm x (List.mem_of_getElem? hx)
      have hz := mayE_size hmx
      have hct := catE_take hxd
      have hes := encE_size x
      have hkl : (((D + j : Nat) : Int) + 1 ≤ (l.length : Int)) := by omega
      have hkw : IntKind.i64.wrap (((D + j : Nat) : Int)) = ((D + j : Nat) : Int) := by rw [IntKind.wrap_i64]; omega
      have hL := h.later hb
      obtain ⟨g, cap, hv, -, hr⟩ := hL.eo.cells hx
      subst hv
      obtain ⟨c0, -⟩ := hL.at_.one
      obtain ⟨K, T, d⟩ := x
      have r0 : wr.cell? ⟨g, (D + j) * 3, none⟩ = some (.int .i64 K) := hr 0 _ rfl
      have r1 : wr.cell? ⟨g, (D + j) * 3 + 1, none⟩ = some (.int .i64 T) := hr 1 _ rfl
      have r2 : wr.cell? ⟨g, (D + j) * 3 + 2, none⟩ = some (.string d) := hr 2 _ rfl
      have HCT : Hid (catE ((l.drop D).take (j + 1)) = catE ((l.drop D).take j) ++ encE ⟨K, T, d⟩) := hct
      have HX : Hid ((l.drop D)[j]? = some (Ev.mk K T d)) := hxd
      have HN : Hid (N = j + takeN most (catE ((l.drop D).take j)).size (j == 0) ((l.drop D).drop j)) := hN
      have hpos : 0 < j → 0 < (catE ((l.drop D).take j)).size := take_pos (by omega)
      have hj0' : j = 0 → (catE ((l.drop D).take j)).size = 0 := fun e => by subst e; rfl
      obtain ⟨Sj, hSj⟩ : ∃ Sj, catE ((l.drop D).take j) = Sj := ⟨_, rfl⟩
      rw [hSj] at HCT HN hS hpos hj0'
      have HS : Hid (catE ((l.drop D).take j) = Sj) := hSj
      simp only at hz hes
      obtain ⟨E, hE⟩ : ∃ E, encE ⟨K, T, d⟩ = E := ⟨_, rfl⟩
      have hte := fun W => rtxt_any K T d W hz
      rw [hE] at HCT hes hte
      have HE : Hid (encE ⟨K, T, d⟩ = E) := hE
      rw [hSj]
      clear hE hm hx hxd hct hN hr hSj
      go_wp2_with fail
      refine (hte _).mono ?_
      rintro e w2 ⟨rfl, hb2⟩
      clear c0 r0 r1 r2 hte
      have hb := hb.trans (hb2.mono hb.size)
      clear hb2 hL
      have hadd : ∀ W, (Op.stringOp .add Sj E).run Try.prog W = .ok (.string (Sj ++ E)) W := fun W => run_string_add_sum W _ _ (by omega)
      by_cases hj0 : j = 0
      · have hem : Sj.toList.isEmpty = true := em_t (hj0' hj0)
        go_wp2
        go_roundw
        case rel =>
          have e1 := takeN_first (most := most) (a := Sj.size) (show (l.drop D)[j]? = some (Ev.mk K T d) from HX)
          have hN : N = j + takeN most Sj.size (j == 0) ((l.drop D).drop j) := HN
          rw [show (j == 0) = true by simpa using hj0, e1, show encE ⟨K, T, d⟩ = E from HE] at hN
          have hcat : catE ((l.drop D).take (j + 1)) = Sj ++ E := HCT
          exact ⟨j + 1, rel_int (by omega), by rw [hcat], rel_int (by omega), by omega, fun _ => by omega, by
            rw [hcat, ByteArray.size_append, show (j + 1 == 0) = false by simp]; omega, hb⟩
        case measure => simp [intOf]; omega
      · have hem : Sj.toList.isEmpty = false := em_f (by have := hpos (by omega); omega)
        by_cases hmo : most < ((Sj.size + E.size : Nat) : Int)
        · have t2 : decide (most < ((Sj.size : Nat) : Int) + ((E.size : Nat) : Int)) = true := decide_eq_true (by omega)
          go_wp2
          go_ret2
          have e1 := takeN_stop (most := most) (a := Sj.size) (show (l.drop D)[j]? = some (Ev.mk K T d) from HX) (by rw [show encE ⟨K, T, d⟩ = E from HE]; omega)
          have hN : N = j + takeN most Sj.size (j == 0) ((l.drop D).drop j) := HN
          rw [show (j == 0) = false by simpa using hj0, e1] at hN
          exact ⟨by rw [hN, show catE ((l.drop D).take (j + 0)) = Sj from HS]; show Ending.returned (.tuple #[.string _, .int .i64 (((D + j : Nat) : Int) + 1)]) = .returned (.tuple #[.string _, .int .i64 ((D : Int) + 1 + ((j + 0 : Nat) : Int))]); rw [show (((D + j : Nat) : Int) + 1) = (D : Int) + 1 + ((j + 0 : Nat) : Int) by omega], hb⟩
        · have t2 : decide (most < ((Sj.size : Nat) : Int) + ((E.size : Nat) : Int)) = false := decide_eq_false (by omega)
          go_wp2
          go_roundw
          case rel =>
            have e1 := takeN_step (most := most) (a := Sj.size) (show (l.drop D)[j]? = some (Ev.mk K T d) from HX) (by rw [show encE ⟨K, T, d⟩ = E from HE]; omega)
            have hN : N = j + takeN most Sj.size (j == 0) ((l.drop D).drop j) := HN
            rw [show (j == 0) = false by simpa using hj0, e1, show encE ⟨K, T, d⟩ = E from HE] at hN
            have hcat : catE ((l.drop D).take (j + 1)) = Sj ++ E := HCT
            exact ⟨j + 1, rel_int (by omega), by rw [hcat], rel_int (by omega), by omega, fun _ => by omega, by
              rw [hcat, ByteArray.size_append, show (j + 1 == 0) = false by simp]; omega, hb⟩
          case measure => simp [intOf]; omega
    · have hL := h.later hb
      obtain ⟨a, c, hv⟩ := hL.eo.shape
      subst hv
      obtain ⟨c0, -⟩ := hL.at_.one
      have hkl : ¬ (((D + j : Nat) : Int) + 1 ≤ (l.length : Int)) := by omega
      have t1 : decide (((D + j : Nat) : Int) + 1 ≤ (l.length : Int)) = false := decide_eq_false hkl
      have e1 : takeN most (catE ((l.drop D).take j)).size (j == 0) ((l.drop D).drop j) = 0 := takeN_end (by rw [List.length_drop]; omega)
      rw [e1] at hN
      have HN : Hid (N = j + 0) := hN
      clear hm hN e1 hkl
      go_wp2
      go_ret2
      have hN : N = j + 0 := HN
      exact ⟨by rw [hN]; show Ending.returned (.tuple #[.string _, .int .i64 (((D + j : Nat) : Int) + 1)]) = .returned (.tuple #[.string _, .int .i64 ((D : Int) + 1 + ((j + 0 : Nat) : Int))]); rw [show (((D + j : Nat) : Int) + 1) = (D : Int) + 1 + ((j + 0 : Nat) : Int) by omega]; rfl, hb⟩
end Go.Proofs.Ytgjkplkghoeeeaa
