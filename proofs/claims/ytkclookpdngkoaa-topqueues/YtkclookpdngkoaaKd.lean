/- Both queues over one text: each call. -/
import Derived.Test.YtkclookpdngkoaaKc
namespace Go.Proofs.Ytkclookpdngkoaa
open Go.RowKit Go.Maps Go.Lib
set_option maxRecDepth 100000
set_option linter.unusedVariables false
set_option linter.unusedSimpArgs false

/-- A text. -/
def tx (l : List UInt8) : ByteArray := ⟨l.toArray⟩
theorem tx_size (l : List UInt8) : (tx l).size = l.length := by simp [tx, ByteArray.size]
theorem tx_list (l : List UInt8) : (tx l).data.toList = l := by simp [tx]
theorem tx_of (b : ByteArray) : tx b.data.toList = b := by simp [tx]
theorem tx_app (a b : List UInt8) : tx a ++ tx b = tx (a ++ b) := by
  apply ByteArray.ext
  rw [ByteArray.data_append]
  simp [tx]
structure TJ (base : Nat) (W : World) (A : V.Bk) (q g : Nat) (T : List UInt8) (fi : Int) (C : Nat → Bool) (p r s : Nat) (ps : List S.Pt) : Prop where
  pj : PJ base W A q g (sQ T fi p s ps) (rQ T fi C p r)
  ti : TI T C p r s
section
variable {base : Nat} {W : World} {A : V.Bk} {q g : Nat} {T : List UInt8} {fi : Int} {C : Nat → Bool} {p r s : Nat} {ps : List S.Pt}
theorem TJ.ok (h : TJ base W A q g T fi C p r s ps) : S.PsOk (s - p) ps := h.pj.sf.ok
theorem TJ.later {W' : World} (h : TJ base W A q g T fi C p r s ps) (hb : Below W.heap.size W W') : TJ base W' A q g T fi C p r s ps := ⟨h.pj.later hb, h.ti⟩
theorem tj_write (h : TJ base W A q g T fi C p r s ps) (b : ByteArray) (hs : b.size ≤ 100) :
    Calls Try.prog 8 #[PQ q, .string b] W fun e W' => ∃ (n : Nat) (c : Int), e = .returned (.tuple #[.int .i64 (n : Int), .int .i64 c]) ∧ n ≤ b.size ∧ TJ base W' A q g (T ++ b.data.toList.take n) fi C p r s ps ∧ Kp base A W W' := by
  obtain ⟨n, e1, e2, e3, e4⟩ := sQ_write (fi := fi) (ps := ps) h.ti b
  refine (pj_write h.pj b (by omega)).mono ?_
  rintro e W' ⟨c, rfl, hP, hk⟩
  rw [e1, e4, ← rQ_write (fi := fi) h.ti (b.data.toList.take n)] at *
  have hl : (b.data.toList.take n).length = n := by
    have : b.data.toList.length = b.size := Array.length_toList
    rw [List.length_take]; omega
  exact ⟨n, c, rfl, e2, ⟨hP, ti_write h.ti _ (by omega)⟩, hk⟩
theorem rQ_win (h : TI T C p r s) : (rQ T fi C p r).room - (rQ T fi C p r).bs.length = r + 150 - p := by
  have h1 := h.rp; have h2 := h.ps; have h3 := h.sT; have h4 := h.w
  show 150 - ((T.take p).drop r).length = _
  rw [List.length_drop, List.length_take]; omega
theorem tj_window (h : TJ base W A q g T fi C p r s ps) :
    Calls Try.prog 10 #[PQ g] W fun e W' => e = .returned (.int .i64 ((r + 150 - p : Nat) : Int)) ∧ TJ base W' A q g T fi C p r s ps ∧ Kp base A W W' := by
  refine (pj_window h.pj).mono ?_
  rintro e W' ⟨rfl, hP, hk⟩
  rw [rQ_win h.ti]
  exact ⟨rfl, ⟨hP, h.ti⟩, hk⟩
theorem tj_next (h : TJ base W A q g T fi C p r s ps) (m : Nat) (hm : m ≤ 1000) :
    Calls Try.prog 9 #[PQ q, .int .i64 ((r + 150 - p : Nat) : Int), .int .i64 (m : Int)] W fun e W' => ∃ s1 : Nat, e = .returned (.tuple #[.int .i64 ((fi + (s : Int)) % 4294967296), .string (tx (pc T s s1))]) ∧ s1 = s + min (min (T.length - s) (r + 150 - s)) m ∧ TJ base W' A q g T fi C p r s1 ps ∧ Kp base A W W' := by
  have h1 := h.ti.rp; have h2 := h.ti.ps; have h3 := h.ti.sT; have h4 := h.ti.w
  have hs : ((sQ T fi p s ps).sent : Int) = ((s - p : Nat) : Int) := rfl
  obtain ⟨mm, hmm⟩ : ∃ mm : Int, mm = min (max ((r + 150 - p : Nat) : Int) 0 - ((sQ T fi p s ps).sent : Int)) (m : Int) := ⟨_, rfl⟩
  have hmm' := hmm
  rw [hs] at hmm'
  obtain ⟨n, hn, e1, e2, e3, e4⟩ := ti_next (fi := fi) h.ti h.ok mm (by omega)
  refine (pj_next h.pj ((r + 150 - p : Nat) : Int) (m : Int) (by omega) (by omega)).mono ?_
  rintro e W' ⟨rfl, hP, hk⟩
  rw [← hmm, e1] at hP
  rw [← hmm, e2, nx_is h.ti]
  exact ⟨s + n, rfl, by omega, ⟨hP, e3⟩, hk⟩
theorem tj_hole (h : TJ base W A q g T fi C p r s ps) (hc : cov C p ps) (m : Nat) (hm : 1 ≤ m) :
    Calls Try.prog 11 #[PQ q, .int .i64 (m : Int)] W fun e W' => ∃ e1 : Nat, e = .returned (.tuple #[.int .i64 ((fi + (p : Int)) % 4294967296), .string (tx (pc T p e1))]) ∧ p ≤ e1 ∧ e1 ≤ s ∧ (p < s → p < e1) ∧ TJ base W' A q g T fi C p r s ps ∧ Kp base A W W' := by
  obtain ⟨v, g1, g2, g3, -, g5⟩ := ti_hole (fi := fi) h.ti h.ok hc
  obtain ⟨k1, k2⟩ := hole_is g1 g5 m hm
  refine (pj_hole h.pj (m : Int)).mono ?_
  rintro e W' ⟨rfl, hP, hk⟩
  rw [k1, k2]
  exact ⟨p + min (v - p) m, rfl, by omega, by omega, fun q => by have := g3 q; omega, ⟨hP, h.ti⟩, hk⟩
theorem tj_told (h : TJ base W A q g T fi C p r s ps) :
    Calls Try.prog 12 #[PQ g, .int .i64 99] W fun e W' => ∃ v, e = .returned v ∧ V.RO W' W.heap.size v (V.apartL (rQ T fi C p r) 99) ∧ TJ base W' A q g T fi C p r s ps ∧ Kp base A W W' ∧ Below W.heap.size W W' := by
  refine (pj_told h.pj 99).mono ?_
  rintro e W' ⟨v, rfl, hr, hP, hk, hb⟩
  exact ⟨v, rfl, hr, ⟨hP, h.ti⟩, hk, hb⟩
theorem tj_put (h : TJ base W A q g T fi C p r s ps) {a e1 : Nat} (hpa : p ≤ a) (hae : a ≤ e1) (hes : e1 ≤ s) :
    Calls Try.prog 13 #[PQ g, .int .i64 ((fi + (a : Int)) % 4294967296), .string (tx (pc T a e1))] W fun e W' => ∃ (x : Int) (p' : Nat) (A' : V.Bk), e = .returned (.tuple #[.int .i64 x, .int .i64 0]) ∧ p ≤ p' ∧ PJ base W' A' q g (sQ T fi p s ps) (rQ T fi (cNew C a e1) p' r) ∧ TI T (cNew C a e1) p' r s ∧ Kp base A W W' ∧ V.Gr W.heap.size A A' := by
  have h3 := h.ti.sT; have h4 := h.ti.w; have h1 := h.ti.rp
  refine (pj_put h.pj ((fi + (a : Int)) % 4294967296) (tx (pc T a e1)) (by rw [tx_size, pc_len (by omega)]; omega) (by omega) (by omega)).mono ?_
  rintro e W' ⟨L, A', rfl, hL, hP, hk, hg⟩
  rw [tx_list] at hL hP
  obtain ⟨k1, k2⟩ := ti_put h.ti hpa hae hes hL
  rw [k1] at hP
  exact ⟨_, p + L.length, A', rfl, by omega, hP, k2, hk, hg⟩
theorem pj_readt {p0 : Nat} {C' : Nat → Bool} (h : PJ base W A q g (sQ T fi p0 s ps) (rQ T fi C' p r)) (ht : TI T C' p r s) (m : Nat) :
    Calls Try.prog 14 #[PQ g, .int .i64 (m : Int)] W fun e W' => ∃ r' : Nat, e = .returned (.string (tx (pc T r r'))) ∧ r' = r + min m (p - r) ∧ PJ base W' A q g (sQ T fi p0 s ps) (rQ T fi C' p r') ∧ TI T C' p r' s ∧ Kp base A W W' := by
  obtain ⟨n, hn, e1, e2, e3, e4⟩ := ti_read (fi := fi) ht (m : Int)
  refine (pj_read h (m : Int)).mono ?_
  rintro e W' ⟨rfl, hP, hk⟩
  rw [e1, e2] at hP
  rw [e1, e4]
  exact ⟨r + n, rfl, by omega, hP, e3, hk⟩
theorem pj_ackt {p0 : Nat} {C0 C' : Nat → Bool} (h : PJ base W A q g (sQ T fi p0 s ps) (rQ T fi C' p r)) (ht : TI T C' p r s) (hp : p0 ≤ p) (hs : s ≤ p0 + 1000) (hc : cov C0 p0 ps) :
    Calls Try.prog 15 #[PQ q, .int .i64 ((fi + (p : Int)) % 4294967296)] W fun e W' => ∃ (x : Int) (ps' : List S.Pt), e = .returned (.tuple #[.int .i64 x, .int .i64 0]) ∧ TJ base W' A q g T fi C' p r s ps' ∧ cov C0 p ps' ∧ Kp base A W W' := by
  have h2 := ht.ps
  obtain ⟨e1, e2, e3⟩ := ti_ack (T := T) (fi := fi) (C' := C') (ps := ps) hp h2 hs h.sf.ok hc
  refine (pj_ack h ((fi + (p : Int)) % 4294967296) (place_is hp h2 hs)).mono ?_
  rintro e W' ⟨rfl, hP, hk⟩
  rw [e1] at hP
  exact ⟨_, _, rfl, ⟨hP, ht⟩, e3, hk⟩
theorem tj_apart (h : TJ base W A q g T fi C p r s ps) {C0 : Nat → Bool} (hC : ∀ j, C0 j = true → C j = true) (hc : cov C0 p ps) {v : Value} {b : Nat} (hr : V.RO W b v (V.apartL (rQ T fi C p r) 99)) :
    Calls Try.prog 17 #[PQ q, v] W fun e W' => ∃ (x : Int) (ps' : List S.Pt), e = .returned (.int .i64 x) ∧ TJ base W' A q g T fi C p r s ps' ∧ cov C p ps' ∧ Kp base A W W' := by
  refine (pj_apart h.pj hr (by have := str_len (fi := fi) h.ti; omega)).mono ?_
  rintro e W' ⟨x, L, rfl, hA, hP, hk⟩
  obtain ⟨k1, k2⟩ := ti_apart h.ti hC hc hA
  exact ⟨x, L, rfl, ⟨hP, h.ti⟩, k2, hk⟩
end
theorem tj_first {w w1 w2 : World} {fi : Int} (f0 : 0 ≤ fi) (f1 : fi ≤ 4294967295) (h1 : S.QX w1 (fun k => w.heap.size ≤ k) w.heap.size ⟨400, fi, 0, [], []⟩ (.slice none 0 0) (.slice none 0 0)) (hb1 : Below w.heap.size w w1) (h2 : V.QX w2 (fun k => w1.heap.size ≤ k ∧ k < w2.heap.size) (w1.heap.size + 1) (V.emptyQ 150 fi)) (hb2 : Below w1.heap.size w1 w2) :
    TJ w.heap.size w2 (fun k => w1.heap.size ≤ k ∧ k < w2.heap.size) w.heap.size (w1.heap.size + 1) [] fi (fun _ => false) 0 0 0 [] := by
  have sf : (⟨((400 : Nat) : Int), fi, 0, [], []⟩ : S.Qu).Fine := ⟨by show (1 : Int) ≤ 400; omega, by show (400 : Int) ≤ 65536; omega, f0, f1, by show ((0 : Nat) : Int) ≤ 400; omega, Nat.le_refl _, List.Pairwise.nil, fun e he => by cases he⟩
  have vf : (V.emptyQ 150 fi).Fine := V.emptyQ_fine f0 f1 (by omega) (by omega)
  have hP := pj_made (r1 := 400) (r2 := 150) h1 hb1 h2 hb2 sf vf
  have e1 : (⟨((400 : Nat) : Int), fi, 0, [], []⟩ : S.Qu) = sQ [] fi 0 0 [] := by
    unfold sQ
    rw [show (fi + ((0 : Nat) : Int)) % 4294967296 = fi by omega]
    rfl
  have e2 : V.emptyQ 150 fi = rQ [] fi (fun _ => false) 0 0 := by
    unfold rQ V.emptyQ
    rw [show (fi + ((0 : Nat) : Int)) % 4294967296 = fi by omega]
    rfl
  rw [e1, e2] at hP
  exact ⟨hP, Nat.le_refl _, Nat.le_refl _, Nat.le_refl _, by omega, fun j h => by omega, rfl, fun j h => (by cases h), by show 0 ≤ 0 + 400; omega⟩
theorem cov_first : cov (fun _ => false) 0 [] := fun k => ⟨fun ⟨e, h, _⟩ => (by cases h), fun h => (by cases h)⟩
end Go.Proofs.Ytkclookpdngkoaa
