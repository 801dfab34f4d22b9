/- The contracts of Decode of package ether and of the document's: the frame that the bytes are; nothing that was there turns. -/
import Derived.Test.YtbppijgceacepaaBytes
import Derived.Deep.RegionHeld3
namespace Go.Proofs.Ytbppijgceacepaa
open Go.RowKit

def dT (s : ByteArray) : Int := numS (s.extract 0 6)
def dF (s : ByteArray) : Int := numS (s.extract 6 12)
def dK (s : ByteArray) : Int := numS (s.extract 12 14)
def dD (s : ByteArray) : ByteArray := s.extract 14 s.size
def decB (s : ByteArray) : Bool := if 14 ≤ s.size then mayB (dT s) (dF s) (dK s) (dD s).size else false
def deT (s : ByteArray) : Int := if decB s = true then dT s else 0
def deF (s : ByteArray) : Int := if decB s = true then dF s else 0
def deK (s : ByteArray) : Int := if decB s = true then dK s else 0
def deD (s : ByteArray) : ByteArray := if decB s = true then dD s else ⟨#[]⟩

def At4 (W : World) (b : Nat) (v0 v1 v2 v3 : Value) : Prop :=
  (W.cell? ⟨b, 0, none⟩ = some v0 ∧ W.cell? ⟨b, 1, none⟩ = some v1 ∧ W.cell? ⟨b, 2, none⟩ = some v2 ∧ W.cell? ⟨b, 3, none⟩ = some v3) ∧
  (W.frozen? ⟨b, 0, none⟩ = false ∧ W.frozen? ⟨b, 1, none⟩ = false ∧ W.frozen? ⟨b, 2, none⟩ = false ∧ W.frozen? ⟨b, 3, none⟩ = false) ∧ b < W.heap.size
theorem at_box (w : World) (v0 v1 v2 v3 : Value) (t : TypeId) : At4 (w.alloc (.cells #[v0, v1, v2, v3] t)) w.heap.size v0 v1 v2 v3 :=
  ⟨box4 w v0 v1 v2 v3 t, by refine ⟨?_, ?_, ?_, ?_⟩ <;> (rw [frozen?_alloc_cells]; simp [World.frozen?]), by simp⟩
theorem At4.later {W x : World} {b : Nat} {v0 v1 v2 v3 : Value} (h : At4 W b v0 v1 v2 v3) (hb : Below W.heap.size W x) : At4 x b v0 v1 v2 v3 :=
  ⟨⟨Ytbppijgceacepaa.later hb h.1.1, Ytbppijgceacepaa.later hb h.1.2.1, Ytbppijgceacepaa.later hb h.1.2.2.1, Ytbppijgceacepaa.later hb h.1.2.2.2⟩,
   ⟨(hb.frozen (p := ⟨b, 0, none⟩) h.2.2).trans h.2.1.1, (hb.frozen (p := ⟨b, 1, none⟩) h.2.2).trans h.2.1.2.1, (hb.frozen (p := ⟨b, 2, none⟩) h.2.2).trans h.2.1.2.2.1, (hb.frozen (p := ⟨b, 3, none⟩) h.2.2).trans h.2.1.2.2.2⟩, Nat.lt_of_lt_of_le h.2.2 hb.size⟩

theorem dD_size (s : ByteArray) : (dD s).size = s.size - 14 := by unfold dD; rw [ByteArray.size_extract]; omega
theorem get_to (s : ByteArray) (w : World) (hs : s.size ≤ maxLen) (h : 14 ≤ s.size) :
    Calls Try.prog 27 #[.string s, .int .i64 0, .int .i64 6] w fun e w' => e = .returned (.tuple #[.int .i64 (dT s), .int .i64 0]) ∧ Below w.heap.size w w' := by
  have hp : getB s.size 0 6 = true := getB_t ⟨by decide, by decide, by decide, by omega⟩
  have := get_any s 0 6 w hs
  unfold getV at this
  rw [hp] at this
  exact this
theorem get_from (s : ByteArray) (w : World) (hs : s.size ≤ maxLen) (h : 14 ≤ s.size) :
    Calls Try.prog 27 #[.string s, .int .i64 6, .int .i64 6] w fun e w' => e = .returned (.tuple #[.int .i64 (dF s), .int .i64 0]) ∧ Below w.heap.size w w' := by
  have hp : getB s.size 6 6 = true := getB_t ⟨by decide, by decide, by decide, by omega⟩
  have := get_any s 6 6 w hs
  unfold getV at this
  rw [hp] at this
  exact this
theorem get_kind (s : ByteArray) (w : World) (hs : s.size ≤ maxLen) (h : 14 ≤ s.size) :
    Calls Try.prog 27 #[.string s, .int .i64 12, .int .i64 2] w fun e w' => e = .returned (.tuple #[.int .i64 (dK s), .int .i64 0]) ∧ Below w.heap.size w w' := by
  have hp : getB s.size 12 2 = true := getB_t ⟨by decide, by decide, by decide, by omega⟩
  have := get_any s 12 2 w hs
  unfold getV at this
  rw [hp] at this
  exact this

set_option maxHeartbeats 1000000 in
theorem dec_any (s : ByteArray) (w : World) (hs : s.size ≤ maxLen) :
    Calls Try.prog 16 #[.string s] w fun e w' => e = .returned (.tuple #[.agg #[.int .i64 (deT s), .int .i64 (deF s), .int .i64 (deK s), .string (deD s)], .int .i64 (codeE (decB s))]) ∧ Below w.heap.size w w' := by
  have hm := hs
  unfold maxLen at hs
  unfold deT deF deK deD
  by_cases h : 14 ≤ s.size
  · have hz := dD_size s
    have hdm : (dD s).size ≤ maxLen := by rw [hz]; unfold maxLen; omega
    clear hz
    have hr0 := at_box w (.int .i64 0) (.int .i64 0) (.int .i64 0) (.string ⟨#[]⟩) 23
    have hl0 := bel1 w (.cells #[.int .i64 0, .int .i64 0, .int .i64 0, .string ⟨#[]⟩] 23)
    have hsl : ∀ W, (Instr.slice 9 (.string s) (some (.int .i64 14)) none none).run Try.prog W = .ok (.string (dD s)) W := fun W => by
      rw [run_slice_string_from_if W 9 s .i64 14 Try.underlying9, if_pos ⟨by omega, by omega⟩]; rfl
    rcases Bool.eq_false_or_eq_true (mayB (dT s) (dF s) (dK s) (dD s).size) with g | g
    · have hB : decB s = true := by unfold decB; rw [if_pos h, g]
      rw [hB, if_pos rfl, if_pos rfl, if_pos rfl, if_pos rfl]
      clear hB
      go_enter Try.func16, Try.ntmps16
      go_wp2_with fail
      refine (get_to _ _ hm h).mono ?_
      rintro e w1 ⟨rfl, hb1⟩
      go_wp2_with fail
      refine (get_from _ _ hm h).mono ?_
      rintro e w2 ⟨rfl, hb2⟩
      go_wp2_with fail
      refine (get_kind _ _ hm h).mono ?_
      rintro e w3 ⟨rfl, hb3⟩
      go_wp2_with fail
      refine (may_any _ _ _ _ _ hdm).mono ?_
      rintro e w4 ⟨rfl, hb4⟩
      obtain ⟨⟨r0, r1, r2, r3⟩, ⟨f0, f1, f2, f3⟩, hlt⟩ := (((hr0.later hb1).later hb2).later hb3).later (bt (bel1 w3 _) hb4)
      obtain ⟨⟨c0, c1, c2, c3⟩, -, -⟩ := (at_box w3 (.int .i64 (dT s)) (.int .i64 (dF s)) (.int .i64 (dK s)) (.string (dD s)) 23).later hb4
      have hbl := bt (bt (bt (bt hl0 hb1) hb2) hb3) (bt (bel1 w3 _) hb4)
      clear hr0 hl0 hb1 hb2 hb3 hb4 hsl
      generalize w3.heap.size = b3 at *
      go_wp2
      exact bodyPost_ret (v := .tuple #[.agg #[.int .i64 (dT s), .int .i64 (dF s), .int .i64 (dK s), .string (dD s)], .int .i64 0]) (by simp [results, Try.results16, go_sem, r0, r1, r2, r3]) rfl ⟨rfl, (((hbl.setCell (Nat.le_refl _) _).setCell (Nat.le_refl _) _).setCell (Nat.le_refl _) _).setCell (Nat.le_refl _) _⟩
    · have hB : decB s = false := by unfold decB; rw [if_pos h, g]
      rw [hB, if_neg (by simp), if_neg (by simp), if_neg (by simp), if_neg (by simp)]
      clear hB
      go_enter Try.func16, Try.ntmps16
      go_wp2_with fail
      refine (get_to _ _ hm h).mono ?_
      rintro e w1 ⟨rfl, hb1⟩
      go_wp2_with fail
      refine (get_from _ _ hm h).mono ?_
      rintro e w2 ⟨rfl, hb2⟩
      go_wp2_with fail
      refine (get_kind _ _ hm h).mono ?_
      rintro e w3 ⟨rfl, hb3⟩
      go_wp2_with fail
      refine (may_any _ _ _ _ _ hdm).mono ?_
      rintro e w4 ⟨rfl, hb4⟩
      obtain ⟨⟨r0, r1, r2, r3⟩, ⟨f0, f1, f2, f3⟩, hlt⟩ := (((hr0.later hb1).later hb2).later hb3).later (bt (bel1 w3 _) hb4)
      have hbl := bt (bt (bt (bt hl0 hb1) hb2) hb3) (bt (bel1 w3 _) hb4)
      clear hr0 hl0 hb1 hb2 hb3 hb4 hsl
      generalize w3.heap.size = b3 at *
      go_wp2
      exact bodyPost_ret (v := .tuple #[.agg #[.int .i64 0, .int .i64 0, .int .i64 0, .string ⟨#[]⟩], .int .i64 30]) (by simp [results, Try.results16, go_sem, r0, r1, r2, r3]) rfl ⟨rfl, (((hbl.setCell (Nat.le_refl _) _).setCell (Nat.le_refl _) _).setCell (Nat.le_refl _) _).setCell (Nat.le_refl _) _⟩
  · have hB : decB s = false := by unfold decB; rw [if_neg h]
    rw [hB, if_neg (by simp), if_neg (by simp), if_neg (by simp), if_neg (by simp)]
    clear hB
    have hr0 := at_box w (.int .i64 0) (.int .i64 0) (.int .i64 0) (.string ⟨#[]⟩) 23
    have hl0 := bel1 w (.cells #[.int .i64 0, .int .i64 0, .int .i64 0, .string ⟨#[]⟩] 23)
    go_enter Try.func16, Try.ntmps16
    go_wp2
    exact bodyPost_ret (v := .tuple #[.agg #[.int .i64 0, .int .i64 0, .int .i64 0, .string ⟨#[]⟩], .int .i64 30]) (by simp [results, Try.results16, go_sem]) rfl ⟨rfl, hl0⟩
end Go.Proofs.Ytbppijgceacepaa
