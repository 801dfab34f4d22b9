/- The document's wheel: New, find, At, Next. -/
import Derived.Test.YtbdloehdhdifpaaWb
import Derived.Great.BuildSlice
import Derived.Laws.AppendOwn
import Derived.Laws.AppendOwnNone
namespace Go.Proofs.Ytbdloehdhdifpaa
open Go.RowKit Go.Maps
set_option maxRecDepth 100000
set_option linter.unusedVariables false
set_option linter.unusedSimpArgs false

/-- A slice of timers that is read. -/
def TR (w : World) (base : Nat) (v : Value) (L : List Tm) : Prop := (v = .slice none 0 0 ∧ L = []) ∨ ∃ g off c, v = .slice (some ⟨g, off, none⟩) L.length c ∧ L.length ≤ c ∧ base ≤ g ∧ g < w.heap.size ∧ ∀ i e, L[i]? = some e → w.cell? ⟨g, off + i * 2, none⟩ = some (.int .i64 e.1) ∧ w.cell? ⟨g, off + i * 2 + 1, none⟩ = some (.int .i64 e.2)
theorem TR.turn {S : Nat → Prop} {w w' : World} {base : Nat} {v : Value} {L : List Tm} (h : TR w base v L) (ht : Turn S w w') (hS : ∀ k, base ≤ k → k < w.heap.size → ¬ S k) : TR w' base v L := by
  rcases h with h | ⟨g, off, c, h1, h2, h3, h4, h5⟩
  · exact Or.inl h
  · exact Or.inr ⟨g, off, c, h1, h2, h3, Nat.lt_of_lt_of_le h4 ht.size, fun i e he => ⟨(ht.cell h4 (hS g h3 h4) _).trans (h5 i e he).1, (ht.cell h4 (hS g h3 h4) _).trans (h5 i e he).2⟩⟩
theorem TR.later {w w' : World} {base : Nat} {v : Value} {L : List Tm} (h : TR w base v L) (hb : Below w.heap.size w w') : TR w' base v L := h.turn (S := fun _ => False) (Turn.of_below hb) (fun _ _ _ h => h)
theorem TR.low {w : World} {base b : Nat} {v : Value} {L : List Tm} (h : TR w base v L) (hb : b ≤ base) : TR w b v L := by
  rcases h with h | ⟨g, off, c, h1, h2, h3, h4⟩
  · exact Or.inl h
  · exact Or.inr ⟨g, off, c, h1, h2, Nat.le_trans hb h3, h4⟩
theorem At.two {W : World} {b : Nat} {v0 v1 : Value} (h : At W b #[v0, v1]) : W.cell? ⟨b, 0, none⟩ = some v0 ∧ W.cell? ⟨b, 1, none⟩ = some v1 ∧ W.frozen? ⟨b, 0, none⟩ = false ∧ W.frozen? ⟨b, 1, none⟩ = false := ⟨(h.2 0 _ rfl).1, (h.2 1 _ rfl).1, (h.2 0 _ rfl).2, (h.2 1 _ rfl).2⟩
theorem rnew_f (n : Int) (w : World) (h : tickB n = false) : Calls Try.prog 7 #[.int .i64 n] w fun e w' => e = .returned (.tuple #[.pointer none, .int .i64 1]) ∧ w' = w := by
  have h := of_decide_eq_false h
  by_cases h1 : n < 0
  · go_enter Try.func7, Try.ntmps7
    go_wp2
    go_ret2
    exact ⟨rfl, rfl⟩
  · have h2 : 1099511627776 < n := by omega
    go_enter Try.func7, Try.ntmps7
    go_wp2
    go_ret2
    exact ⟨rfl, rfl⟩
theorem rnew_t (n : Int) (w : World) (h : tickB n = true) : Calls Try.prog 7 #[.int .i64 n] w fun e w' => ∃ R, e = .returned (.tuple #[.pointer (some ⟨R, 0, none⟩), .int .i64 0]) ∧ w.heap.size ≤ R ∧ At w' R #[.int .i64 n, .slice none 0 0] ∧ Below w.heap.size w w' := by
  obtain ⟨h0, h1⟩ := of_decide_eq_true h
  go_enter Try.func7, Try.ntmps7
  go_wp2
  go_ret2
  exact ⟨w.heap.size, rfl, Nat.le_refl _, At.box _ _ _, bel1 _ _⟩
theorem find_n (R base : Nat) (now n : Int) (v : Value) (L : List Tm) (w : World) (hR : At w R #[.int .i64 now, v]) (hT : TR w base v L) (hl : L.length < 1000000) (hq : lkT L n = none) : Calls Try.prog 24 #[.pointer (some ⟨R, 0, none⟩), .int .i64 n] w fun e w' => e = .returned (.int .i64 (-1)) ∧ w' = w := by
  obtain ⟨c0, c1, -, -⟩ := hR.two
  rcases hT with ⟨rfl, rfl⟩ | ⟨g, off, c, rfl, h2, h3, h4, h5⟩
  · go_enter Try.func24, Try.ntmps24
    go_wp2
    refine wp_loop_rounds 1 ?_
    rw [rounds_succ]
    go_wp2
    go_ret
    exact ⟨rfl, rfl⟩
  · have H5 : Hid (∀ i e, L[i]? = some e → w.cell? ⟨g, off + i * 2, none⟩ = some (.int .i64 e.1) ∧ w.cell? ⟨g, off + i * 2 + 1, none⟩ = some (.int .i64 e.2)) := h5
    clear h5
    go_enter Try.func24, Try.ntmps24
    go_wp2
    go_loopw [5] (fun i wr => ∃ k : Nat, i = .int .i64 (k : Int) ∧ k ≤ L.length ∧ w = wr) (fun i _ => L.length - (intOf i).toNat)
    case atStart => exact ⟨0, rfl, Nat.zero_le _, rfl⟩
    case round =>
      obtain ⟨k, rfl, hk, rfl⟩ := hrel
      by_cases hlt : k < L.length
      · have hk1 : (k : Int) < (L.length : Int) := by omega
        have hk0 : (0 : Int) ≤ (k : Int) := by omega
        obtain ⟨d1, d2⟩ := H5.out k _ (List.getElem?_eq_getElem hlt)
        have hne : (L[k].1 == n) = false := beq_eq_false_iff_ne.2 (lkT_none hq _ (List.getElem_mem hlt))
        generalize L[k].1 = x at *
        generalize L[k].2 = y at *
        go_wp2
        go_roundw
        case rel => exact ⟨k + 1, by simp, by omega, by first | rfl | trivial⟩
        case measure => (simp [intOf]; try omega)
      · have hk1 : ¬ (k : Int) < (L.length : Int) := by omega
        go_wp2
        go_ret
        exact ⟨rfl, rfl⟩
theorem find_s (R base : Nat) (now n c9 : Int) (v : Value) (L : List Tm) (w : World) (hR : At w R #[.int .i64 now, v]) (hT : TR w base v L) (hL : WL L) (hq : lkT L n = some c9) : Calls Try.prog 24 #[.pointer (some ⟨R, 0, none⟩), .int .i64 n] w fun e w' => ∃ i : Nat, e = .returned (.int .i64 (i : Int)) ∧ L[i]? = some (n, c9) ∧ w' = w := by
  obtain ⟨c0, c1, -, -⟩ := hR.two
  have hll := hL.len
  rcases hT with ⟨rfl, rfl⟩ | ⟨g, off, c, rfl, h2, h3, h4, h5⟩
  · cases hq
  · have H5 : Hid (∀ i e, L[i]? = some e → w.cell? ⟨g, off + i * 2, none⟩ = some (.int .i64 e.1) ∧ w.cell? ⟨g, off + i * 2 + 1, none⟩ = some (.int .i64 e.2)) := h5
    clear h5
    go_enter Try.func24, Try.ntmps24
    go_wp2
    go_loopw [5] (fun i wr => ∃ k : Nat, i = .int .i64 (k : Int) ∧ k ≤ L.length ∧ w = wr ∧ Hid (∀ j e, j < k → L[j]? = some e → e.1 ≠ n)) (fun i _ => L.length - (intOf i).toNat)
    case atStart => exact ⟨0, rfl, Nat.zero_le _, rfl, (show Hid _ from fun j e hj => by omega)⟩
    case round =>
      obtain ⟨k, rfl, hk, rfl, HN⟩ := hrel
      by_cases hlt : k < L.length
      · have hk1 : (k : Int) < (L.length : Int) := by omega
        have hk0 : (0 : Int) ≤ (k : Int) := by omega
        have hge := List.getElem?_eq_getElem hlt
        obtain ⟨d1, d2⟩ := H5.out k _ hge
        obtain ⟨e9, he9⟩ : ∃ e, e = L[k] := ⟨_, rfl⟩
        rw [← he9] at d1 d2 hge
        clear he9
        by_cases hx : e9.1 = n
        · have hbx : (e9.1 == n) = true := by simpa using hx
          have hfin : L[k]? = some (n, c9) := by
            have h7 := lkT_of hL.nod (n := e9.1) (t := e9.2) (List.mem_of_getElem? hge)
            rw [hx, hq] at h7
            rw [hge, ← hx]
            injection h7 with h7
            rw [h7]
          have HF : Hid _ := hfin
          clear hfin hge hx
          go_wp2
          go_ret
          exact ⟨k, rfl, HF.out, rfl⟩
        · have hbx : (e9.1 == n) = false := beq_eq_false_iff_ne.2 hx
          have HN2 : Hid (∀ j e, j < k + 1 → L[j]? = some e → e.1 ≠ n) := fun j e hj he => by
            by_cases hjk : j = k
            · subst hjk; rw [hge] at he; injection he with he; rw [← he]; exact hx
            · exact HN.out j e (by omega) he
          clear HN hge hx
          go_wp2
          go_roundw
          case rel => exact ⟨k + 1, by simp, by omega, by first | rfl | trivial, HN2⟩
          case measure => (simp [intOf]; try omega)
      · exfalso
        obtain ⟨i, hi, he⟩ := List.mem_iff_getElem.1 (lkT_mem hq)
        exact HN.out i (n, c9) (by omega) (by rw [List.getElem?_eq_getElem hi, he]) rfl
theorem rat_any (R base : Nat) (now n : Int) (v : Value) (L : List Tm) (w : World) (hR : At w R #[.int .i64 now, v]) (hT : TR w base v L) (hL : WL L) : Calls Try.prog 19 #[.pointer (some ⟨R, 0, none⟩), .int .i64 n] w fun e w' => e = .returned (.tuple #[.int .i64 (atR L n).1, .bool (atR L n).2]) ∧ w' = w := by
  have hll := hL.len
  obtain ⟨c0, c1, -, -⟩ := hR.two
  unfold atR
  cases hq : lkT L n with
  | none =>
    go_enter Try.func19, Try.ntmps19
    go_wp2_with fail
    refine (find_n R base now n v L w hR hT (by omega) hq).mono ?_
    rintro e w1 ⟨rfl, rfl⟩
    go_wp2
    go_ret2
    exact ⟨rfl, rfl⟩
  | some c9 =>
    have HT : Hid (TR w base v L) := hT
    go_enter Try.func19, Try.ntmps19
    go_wp2_with fail
    refine (find_s R base now n c9 v L w hR hT hL hq).mono ?_
    rintro e w1 ⟨i, rfl, hi, rfl⟩
    rcases HT.out with ⟨rfl, rfl⟩ | ⟨g, off, c, rfl, h2, h3, h4, h5⟩
    · simp at hi
    · obtain ⟨d1, d2⟩ := h5 i _ hi
      have hil : i < L.length := (List.getElem?_eq_some_iff.1 hi).1
      have hi1 : (i : Int) < (L.length : Int) := by omega
      have hi0 : ¬ (i : Int) < 0 := by omega
      have hi2 : (0 : Int) ≤ (i : Int) := by omega
      clear hi h5
      simp only at d1 d2
      go_wp2
      go_ret2
      exact ⟨rfl, rfl⟩
def nextV (L : List Tm) : Int × Bool := match L with | [] => (0, false) | e :: _ => (e.2, true)
theorem rnext_any (R base : Nat) (now : Int) (v : Value) (L : List Tm) (w : World) (hR : At w R #[.int .i64 now, v]) (hT : TR w base v L) (hl : L.length < 1000000) : Calls Try.prog 21 #[.pointer (some ⟨R, 0, none⟩)] w fun e w' => e = .returned (.tuple #[.int .i64 (nextV L).1, .bool (nextV L).2]) ∧ w' = w := by
  obtain ⟨c0, c1, -, -⟩ := hR.two
  rcases hT with ⟨rfl, rfl⟩ | ⟨g, off, c, rfl, h2, h3, h4, h5⟩
  · go_enter Try.func21, Try.ntmps21
    go_wp2
    go_ret2
    exact ⟨rfl, rfl⟩
  · cases L with
    | nil =>
      simp only [List.length_nil] at c1
      go_enter Try.func21, Try.ntmps21
      go_wp2
      go_ret2
      exact ⟨rfl, rfl⟩
    | cons e r =>
      obtain ⟨d1, d2⟩ := h5 0 e rfl
      have e1 : off + 0 * 2 + 1 = off + 1 := by omega
      rw [e1] at d2
      have hn : (((e :: r).length : Int) == 0) = false := beq_eq_false_iff_ne.2 (by simp; try omega)
      have hp : (0 : Int) < ((e :: r).length : Int) := by (simp; try omega)
      unfold nextV
      clear h5 d1 e1
      have hlz : Hid ((e :: r).length < 1000000) := hl
      obtain ⟨y, hy⟩ : ∃ y, y = e.2 := ⟨_, rfl⟩
      rw [← hy] at d2
      have HY : Hid (y = e.2) := hy
      clear hy hl h2
      generalize (e :: r).length = nn at *
      go_enter Try.func21, Try.ntmps21
      go_wp2
      go_ret2
      exact ⟨by rw [← HY.out]; rfl, rfl⟩
end Go.Proofs.Ytbdloehdhdifpaa
