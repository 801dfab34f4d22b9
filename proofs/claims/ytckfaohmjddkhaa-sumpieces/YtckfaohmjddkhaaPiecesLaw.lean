/- Proved: for every list of strings sum.Of answers as the document has it, the list stays as it is, and the chapter's example holds; no condition. -/
import Derived.Test.YtckfaohmjddkhaaRows
import Derived.Test.YtckfaohmjddkhaaLists
import Derived.WalkKit
import Derived.ProofKit
import Derived.OpenShut
import Derived.ShutString
import Derived.ChangeOld
import Derived.Below
import Derived.SizedLaws
import Derived.SliceStrings
import Derived.Carry
import Derived.Laws.AppendOwnNone
namespace Go.Proofs.Ytckfaohmjddkhaa.sumPieces
open Go.ChangeShapes Go.WideShapes Go.ChangeAt Go.RowKit
set_option linter.unusedVariables false

theorem own : ownKnob Try.prog.godebug = none := by kernel_rfl
theorem laidOut : laidOutB Try.prog = true := by kernel_rfl
theorem info9 : (Try.prog.info? 9).map (fun i => (i.zero, i.size, i.bytes)) = some (some (.string ByteArray.empty), 1, 16) := by kernel_rfl

/-- What the walk is told of a list of strings that came in: it is nil, or it leads to a row of cells that hold the strings. -/
def IsStrs (w : World) (a : Option Addr) (cap : Nat) (ss : List ByteArray) : Prop :=
  (a = none ∧ cap = 0 ∧ ss = []) ∨
  ∃ x, a = some x ∧ (∀ i, i < ss.length → w.cell? (x.add i) = some (.string (ss.getD i ByteArray.empty))) ∧ ∀ s ∈ ss, s.size ≤ 140737488355328

theorem strs_oneCell (ss : List ByteArray) : ∀ u ∈ ss.map Value.string, u.oneCell' = true := by
  intro u hu
  obtain ⟨_, _, rfl⟩ := List.mem_map.1 hu
  rfl
theorem strs_at (ss : List ByteArray) (j : Nat) (h : j < ss.length) : (ss.map Value.string)[j]? = some (.string (ss.getD j ByteArray.empty)) := by
  simp [List.getD, List.getElem?_eq_getElem h]

theorem walk_nil (w : World) :
    Calls Try.prog 3 #[.slice none 0 0] w fun e w' => e = .returned (.bool true) ∧ Below w.heap.size w w' := by
  obtain ⟨i0, hi, hz0, hz1, hz2⟩ := info_parts info9
  have hown : (w.alloc (.cells #[] 9)).ownsRow w.heap.size 9 1 (.slice (some ⟨w.heap.size, 0, none⟩) 0 0) 0 [] := World.ownsRow_lit w #[] 0 (Nat.le_refl _) (Nat.zero_le _) rfl
  go_enter Try.func3, Try.ntmps3
  go_wp2_with (first | (at_builtin; refine wpList_append_own_none rfl _ _ 22 rfl w.heap.size 9 i0 1 Try.underlying22 hi _ _ _ rfl hown rfl ?_))
  clear hi hz0 hz1 hz2 hown
  refine (of_any w.heap.size 0 0 [] _ (by simp) (by simp) (by simp)).mono ?_
  rintro e u1 ⟨rfl, rfl⟩
  go_wp2_with fail
  refine (rof_empty none 0 _).mono ?_
  rintro e u1 ⟨rfl, rfl⟩
  go_wp2_with fail
  refine (same_empty _ _ _ _ _).mono ?_
  rintro e u1 ⟨rfl, rfl⟩
  go_wp2_with fail
  refine (works_any _).mono ?_
  rintro e u1 ⟨rfl, b1⟩
  go_wp2
  go_ret
  exact ⟨rfl, bt ((Below.refl _ _).alloc (Nat.le_refl _) _) b1⟩

theorem walk_some (x : Addr) (cap : Nat) (ss : List ByteArray) (w : World) (hz : ss.length * 16 ≤ 140737488351232)
    (hc : ∀ i, i < ss.length → w.cell? (x.add i) = some (.string (ss.getD i ByteArray.empty))) (hs : ∀ s ∈ ss, s.size ≤ 140737488355328) :
    Calls Try.prog 3 #[.slice (some x) ss.length cap] w fun e w' => e = .returned (.bool true) ∧ Below w.heap.size w w' := by
  obtain ⟨i0, hi, hz0, hz1, hz2⟩ := info_parts info9
  have hown : (w.alloc (.cells #[] 9)).ownsRow w.heap.size 9 1 (.slice (some ⟨w.heap.size, 0, none⟩) 0 0) 0 [] := World.ownsRow_lit w #[] 0 (Nat.le_refl _) (Nat.zero_le _) rfl
  have hb0 : Below w.heap.size w (w.alloc (.cells #[] 9)) := (Below.refl _ _).alloc (Nat.le_refl _) _
  have HC : Hid (∀ i, i < ss.length → w.cell? (x.add i) = some (.string (ss.getD i ByteArray.empty))) := hc
  have HS : Hid (∀ s ∈ ss, s.size ≤ 140737488355328) := hs
  clear hc hs
  go_enter Try.func3, Try.ntmps3
  go_wp2_with (first | (at_builtin; refine wpList_append_own _ rfl _ _ 22 rfl w.heap.size 9 i0 (.string ByteArray.empty) 1 16 Try.underlying22 hi hz0 hz1 hz2 rfl (by decide) _ _ _ rfl hown x ss.length cap (ss.map Value.string) rfl (by simp) ?c1 (strs_oneCell ss) ?c3 ?c4 ?c5 ?_))
  case c1 =>
    intro j u hu
    have hj : j < ss.length := by
      have := (List.getElem?_eq_some_iff.1 hu).1
      simpa using this
    rw [strs_at ss j hj] at hu
    rw [← Option.some.inj hu]
    exact cell_later hb0 (HC.out j hj)
  case c3 => unfold maxLen; omega
  case c4 => omega
  case c5 => simp
  intro v' w1 hown2 hgrow hn
  have hbel : Below w.heap.size w w1 := hb0.grown hgrow (by simp) (fun k e => by simp [Value.ownBlock] at e; omega)
  have h2 := hown2.2
  rcases h2 with ⟨h, _⟩ | ⟨g, cap', cur, rfl, -⟩
  · exact absurd h hn
  have G : Hid (∀ j, j < ss.length → w1.cell? ⟨g, 0 + j, none⟩ = some (.string (ss.getD j ByteArray.empty))) := by
    intro j hj
    have := hown2.cellAt j (by omega)
    rw [strs_at ss j hj] at this
    rw [Nat.zero_add]
    exact this
  clear hown2 hgrow hn hi hz0 hz1 hz2 hown hb0
  by_cases h0 : ss.length = 0
  · have e : ss = [] := List.eq_nil_of_length_eq_zero h0
    subst e
    clear h0
    go_wp2_with fail
    refine (of_any g 0 cap' [] _ (by simp) (by simp) (by simp)).mono ?_
    rintro e u1 ⟨rfl, rfl⟩
    go_wp2_with fail
    refine (rof_empty _ _ _).mono ?_
    rintro e u1 ⟨rfl, rfl⟩
    go_wp2_with fail
    refine (same_empty _ _ _ _ _).mono ?_
    rintro e u1 ⟨rfl, rfl⟩
    go_wp2_with fail
    refine (works_any _).mono ?_
    rintro e u2 ⟨rfl, b1⟩
    go_wp2
    go_ret
    exact ⟨rfl, bt hbel b1⟩
  · obtain ⟨b, off, spot⟩ := x
    have hspot : spot = none := by
      have := World.cell?_spot (HC.out 0 (by omega))
      simpa [Addr.add] using this
    subst hspot
    have L : Hid (∀ j, j < ss.length → w1.cell? ⟨b, off + j, none⟩ = some (.string (ss.getD j ByteArray.empty))) := by
      intro j hj
      have := HC.out j hj
      rw [Addr.add_lit] at this
      exact cell_later hbel this
    have hlb : ss.length ≤ 9223372036854775807 := by omega
    go_wp2_with fail
    refine (of_any g 0 cap' ss _ hlb G.out HS.out).mono ?_
    rintro e u1 ⟨rfl, rfl⟩
    go_wp2_with fail
    refine (rof_list b off cap ss _ hlb L.out HS.out).mono ?_
    rintro e u1 ⟨rfl, rfl⟩
    go_wp2_with fail
    refine (same_list g 0 cap' b off cap ss _ hlb G.out L.out).mono ?_
    rintro e u2 ⟨rfl, b1⟩
    go_wp2_with fail
    refine (works_any _).mono ?_
    rintro e u3 ⟨rfl, b2⟩
    go_wp2
    go_ret
    exact ⟨rfl, bt (bt hbel b1) b2⟩

theorem walk (a : Option Addr) (cap : Nat) (ss : List ByteArray) (w : World) (h : IsStrs w a cap ss) (hz : ss.length * 16 ≤ 140737488351232) :
    Calls Try.prog 3 #[.slice a ss.length cap] w fun e w' => e = .returned (.bool true) ∧ Below w.heap.size w w' := by
  rcases h with ⟨rfl, rfl, rfl⟩ | ⟨x, rfl, hc, hs⟩
  · exact walk_nil w
  · exact walk_some x cap ss w hz hc hs

theorem mem_weights {H : Type} (P : Program) (l : List ByteArray) (s : ByteArray) (h : s ∈ l) : s.size ∈ DataW.weightsAll (H := H) P 9 (strs l) := by
  induction l with
  | nil => cases h
  | cons a l ih =>
    simp only [strs, List.map_cons, DataW.weightsAll, DataW.weights, List.mem_append]
    rcases List.mem_cons.1 h with rfl | h
    · left; simp
    · right; exact ih h
theorem bytes9 : Try.prog.bytesOf 9 = 16 := by kernel_rfl

set_option maxRecDepth 100000 in
theorem lifted (os : Os) (started : os.Started) (H : Type) (enc : TypeId × Value → H) :
    ReturnsInHanded {} Try.checked os 3 .any (Rows.sumPiecesSpec.pre6 enc Try.prog Try.f3 Rows.sumPiecesRow.domain false) (Rows.sumPiecesSpec.post enc Try.prog Try.f3 false true false false) := by
  refine returnsInHanded_of_change_sized (C := Try.checked) own started (by kernel_rfl) Try.func3
    (ChangeSpec.witness6 (enc := enc) (C := Try.checked) false ⟨#[], #[.slice none 0 0], []⟩ 8 (by kernel_rfl) (by kernel_rfl) (by kernel_rfl) (by kernel_rfl)) ?_
  intro W base args ds gs before hval0 hW hcnd hsz0 _
  have hsz : (DataW.weightsEach Try.prog (Try.f3.params.toList ++ Rows.sumPiecesSpec.plain.varTypes Try.prog) (ds ++ gs)).all (· ≤ reachBytes) = true := hsz0
  have hval : ∀ (j : Nat) t v, Try.f3.params[j]? = some t → args[j]? = some v → Value.okWide Try.prog W .any base t v := hval0
  have hW' := hW
  obtain ⟨p, q, hA0, hV, rfl, hfz, hnd⟩ := hW
  have hA : DataW.TrodAll enc Try.prog W 0 (fun _ => true) true Try.f3.params.toList args.toList ds p := hA0
  rw [Try.params3] at hA hval hsz
  obtain ⟨v0, vs0, d0, ds0, p0, q0, hargs, rfl, rfl, h0, r0⟩ := trodAll_cons hA
  obtain ⟨rfl, rfl, rfl⟩ := trodAll_nil r0
  obtain rfl : args = #[v0] := by cases args; simp_all
  obtain ⟨rfl, rfl⟩ := trodVars_none hV
  obtain ⟨a0, len0, cap0, rfl⟩ := okWide_slice Try.underlying22 (hval 0 22 v0 rfl rfl)
  have k0 := h0
  have lt0 : ∀ x ∈ p0, x.block < W.heap.size := by obtain ⟨m, hm⟩ := k0; exact DataW.trod_lt m _ _ _ hm
  obtain ⟨ss, hlen, w0, hz0⟩ : ∃ ss : List ByteArray, ss.length = len0 ∧ IsStrs W a0 cap0 ss ∧ ss.length * 16 ≤ 140737488351232 := by
    obtain ⟨fuel, hf⟩ := h0
    rcases open_strings Try.underlying22 Try.underlying9 (by kernel_rfl) hf with ⟨hcs, _⟩ | ⟨x, l, c, ss, hcs, _, hl, hm, hz, hx, hcell, hwz⟩
    · simp [Value.cells] at hcs
      obtain ⟨rfl, rfl, rfl⟩ := hcs
      exact ⟨[], rfl, .inl ⟨rfl, rfl, rfl⟩, by simp⟩
    · simp [Value.cells] at hcs
      obtain ⟨rfl, rfl, rfl⟩ := hcs
      simp only [if_true] at hz
      have hd : d0 = .slice (strs (ss.take len0)) (strs (ss.drop len0)) := congrArg Prod.fst hx
      have hsl := sized_slice hsz (j := 0) (t := 22) (e := 9) rfl (by rw [hd]; rfl) Try.underlying22
      rw [bytes9] at hsl
      simp only [strs, List.length_map, List.length_take, List.length_drop, reachBytes] at hsl
      have htl : (ss.take len0).length = len0 := by rw [List.length_take]; omega
      refine ⟨ss.take len0, htl, .inr ⟨x, rfl, ?_, ?_⟩, ?_⟩
      · intro i hi
        rw [htl] at hi
        have e : (ss.take len0).getD i ByteArray.empty = ss.getD i ByteArray.empty := by
          simp only [List.getD, List.getElem?_take, if_pos hi]
        rw [e]
        exact hcell i (by omega)
      · intro s hs
        have hmem := mem_weights (H := H) Try.prog (ss.take len0) s hs
        have hall := List.all_eq_true.1 hsz _ (DataW.weights_mem_each (j := 0) (t := 22) rfl (by rw [hd]; rfl) s.size (by
          simp only [DataW.weights, Try.underlying22, List.mem_cons, List.mem_append]
          exact Or.inr (Or.inl hmem)))
        have hall2 : s.size ≤ reachBytes := of_decide_eq_true hall
        unfold reachBytes at hall2
        omega
      · rw [htl]; omega
  subst hlen
  clear hA0 hval0
  refine (walk a0 cap0 ss W w0 hz0).mono fun e W' ⟨he, bel⟩ => ?_
  subst he
  exact ⟨_, rfl, _, _, _, [], _, [], hW', trodAll_mk1 (shut_bool Try.underlying4 _), (trodAll_cons_mk (Below.trod laidOut (by kernel_rfl) (of_decide_eq_true (by kernel_rfl)) k0 bel lt0) trodAll_mk0), rfl, bel.frame _, fun h => by cases h⟩

theorem over : Rows.sumPiecesRow.holds Try.pinned (OpenSpec.ofChange Rows.sumPiecesSpec) :=
  OpenClaim.holds_of_wide 3 Try.f3 rfl rfl rfl rfl rfl rfl rfl ⟨rfl, rfl, rfl, rfl, rfl⟩ rfl rfl rfl rfl rfl (by kernel_rfl) Try.func3 (by kernel_rfl)
    (of_decide_eq_true (by kernel_rfl)) (by unfold Func.isWrapper; first | (rw [if_pos (by decide +kernel)]; kernel_rfl) | (rw [if_neg (by decide +kernel)]; exact ⟨rfl, rfl⟩))
    (fun os started H enc _ => lifted os started H enc)
end Go.Proofs.Ytckfaohmjddkhaa.sumPieces
namespace Go.Proofs.Ytckfaohmjddkhaa
theorem sumPieces_holds : Rows.SumPiecesSaid := sumPieces.over
end Go.Proofs.Ytckfaohmjddkhaa
