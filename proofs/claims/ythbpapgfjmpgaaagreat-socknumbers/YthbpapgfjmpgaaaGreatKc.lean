/- The table: hears, Listen, Accept of none, Silence. -/
import Derived.Test.YthbpapgfjmpgaaaGreatKb
namespace Go.Proofs.YthbpapgfjmpgaaaGreat
open Go.RowKit Go.Maps
set_option maxRecDepth 100000
set_option linter.unusedVariables false
set_option linter.unusedSimpArgs false


def tabV (L M : Nat) : Array Value := #[.int .i64 20, .int .i64 60, .int .i64 1, .int .i64 8, .int .i64 4, .int .i64 40, .int .i64 20, .int .i64 10, .int .i64 7, .int .i64 8, .int .i64 20, .int .i64 11, .int .i64 0, .map (some L), .map (some M), .slice none 0 0]
/-- A table without connections, that listens at the keys of l. -/
structure TX (w : World) (T L M : Nat) (l : List Vn) : Prop where
  at_ : At w T (tabV L M)
  vm : VM w L l
  em : w.heap[M]? = some (.map #[] 0)
  n1 : T ≠ L
  n2 : T ≠ M
  n3 : L ≠ M
theorem TX.turn {A : Nat → Prop} {w w' : World} {T L M : Nat} {l : List Vn} (h : TX w T L M l) (ht : Turn A w w') (hT : ¬ A T) (hL : ¬ A L) (hM : ¬ A M) : TX w' T L M l :=
  ⟨h.at_.turn ht hT, h.vm.turn ht hL, (ht.block M (Array.getElem?_eq_some_iff.1 h.em).1 hM).trans h.em, h.n1, h.n2, h.n3⟩
theorem TX.later {w w' : World} {T L M : Nat} {l : List Vn} (h : TX w T L M l) (hb : Below w.heap.size w w') : TX w' T L M l := h.turn (A := fun _ => False) (Turn.of_below hb) (fun h => h) (fun h => h) (fun h => h)
theorem TX.lt {w : World} {T L M : Nat} {l : List Vn} (h : TX w T L M l) : T < w.heap.size ∧ L < w.heap.size ∧ M < w.heap.size := ⟨h.at_.1, h.vm.lt, (Array.getElem?_eq_some_iff.1 h.em).1⟩
theorem zeroE (w : World) : (zeroValue 104).run Tryz.prog w = .ok (.agg #[]) w := by kernel_rfl
abbrev EV : Value := .agg #[]
theorem fits_t {a n b : Int} (w : World) (h0 : a ≤ n) (h1 : n ≤ b) : Calls Tryz.prog 15 #[.int .i64 a, .int .i64 n, .int .i64 b] w fun e w' => e = .returned (.bool true) ∧ w' = w := by
  go_enter Tryz.func15, Tryz.ntmps15
  go_wp2
  go_ret
  exact ⟨rfl, rfl⟩
theorem port_t {n : Int} (w : World) (h0 : 1 ≤ n) (h1 : n ≤ 65535) : Calls Tryz.prog 39 #[.int .i64 n] w fun e w' => e = .returned (.bool true) ∧ w' = w := by
  go_enter Tryz.func39, Tryz.ntmps39
  go_wp2_with fail
  refine (fits_t w h0 h1).mono ?_
  rintro e w1 ⟨rfl, rfl⟩
  go_wp2
  go_ret
  exact ⟨rfl, rfl⟩
theorem wfp {p : Int} (h0 : 1 ≤ p) (h1 : p ≤ 65535) : (Lit.int .i64 p).wf = true := WalkArith.wf_i64 (by omega)
theorem hears_any {w : World} {T L M : Nat} {l : List Vn} {p : Int} (h : TX w T L M l) (hp : (Lit.int .i64 p).wf = true) (hl : ∀ v, vlk l p = some v → v = EV) :
    Calls Tryz.prog 40 #[PB T, .int .i64 p] w fun e w' => e = .returned (.bool (vlk l p).isSome) ∧ Below w.heap.size w w' := by
  have c : w.cell? ⟨T, 13, none⟩ = some (.map (some L)) := (h.at_.2 13 _ rfl).1
  have hvm := h.vm
  have hv : (vlk l p).getD EV = EV := by cases hq : vlk l p with | none => rfl | some x => exact hl x hq
  obtain ⟨b, hb⟩ : ∃ b, (vlk l p).isSome = b := ⟨_, rfl⟩
  rw [hb]
  clear h hl
  go_enter Tryz.func40, Tryz.ntmps40
  go_wp2_with (first | (at_lookup; refine wpList_lookup_vm rfl _ _ rfl L l p hp Tryz.underlying65 zeroE rfl hvm rfl ?_; rw [hv, hb]) | go_in)
  go_ret
  exact ⟨rfl, bel1 w _⟩
theorem listen_f {w : World} {T L M : Nat} {l : List Vn} {p : Int} (h : TX w T L M l) (h0 : 1 ≤ p) (h1 : p ≤ 65535) (hl : vlk l p = some EV) :
    Calls Tryz.prog 29 #[PB T, .int .i64 p] w fun e w' => e = .returned (.int .i64 190) ∧ Below w.heap.size w w' := by
  go_enter Tryz.func29, Tryz.ntmps29
  go_wp2_with fail
  refine (port_t w h0 h1).mono ?_
  rintro e w1 ⟨rfl, rfl⟩
  go_wp2_with fail
  refine (hears_any h (wfp h0 h1) (fun v hv => by rw [hl] at hv; cases hv; rfl)).mono ?_
  rintro e w2 ⟨rfl, hb⟩
  rw [hl]
  go_wp2
  go_ret
  exact ⟨rfl, hb⟩
theorem listen_t {w : World} {T L M : Nat} {l : List Vn} {p : Int} (h : TX w T L M l) (h0 : 1 ≤ p) (h1 : p ≤ 65535) (hl : vlk l p = none) (hn : l.length < 1000) :
    Calls Tryz.prog 29 #[PB T, .int .i64 p] w fun e w' => e = .returned (.int .i64 0) ∧ TX w' T L M (vput l (p, EV)) ∧ Turn (fun k => k = L) w w' := by
  have hwf := wfp h0 h1
  have hn6 : l.length < 1000000 := by omega
  go_enter Tryz.func29, Tryz.ntmps29
  go_wp2_with fail
  refine (port_t w h0 h1).mono ?_
  rintro e w1 ⟨rfl, rfl⟩
  go_wp2_with fail
  refine (hears_any h (wfp h0 h1) (fun v hv => by rw [hl] at hv; cases hv)).mono ?_
  rintro e w2 ⟨rfl, hb⟩
  rw [hl]
  have h2 := h.later hb
  have c : w2.cell? ⟨T, 13, none⟩ = some (.map (some L)) := (h2.at_.2 13 _ rfl).1
  have hvm := h2.vm
  go_wp2_with (first | (at_mapUpdate; refine wpList_put_vm rfl _ _ _ rfl L l p EV hwf Tryz.underlying65 hn6 rfl hvm rfl rfl ?_; intro w3 hvm3 ht3) | go_in)
  go_ret
  have ht : Turn (fun k => k = L) w1 w3 := (Turn.of_below hb).trans ht3
  exact ⟨rfl, ⟨h2.at_.turn ht3 (fun e => h.n1 e), hvm3, (ht3.block M h2.lt.2.2 (fun e => h.n3 e.symm)).trans h2.em, h.n1, h.n2, h.n3⟩, ht⟩
theorem accept_no {w : World} {T L M : Nat} {l : List Vn} {p : Int} (h : TX w T L M l) :
    Calls Tryz.prog 33 #[PB T, .int .i64 p] w fun e w' => e = .returned (.tuple #[.int .i64 0, .bool false]) ∧ w' = w := by
  have c : w.cell? ⟨T, 15, none⟩ = some (.slice none 0 0) := (h.at_.2 15 _ rfl).1
  clear h
  go_enter Tryz.func33, Tryz.ntmps33
  go_wp2
  refine wp_loop_rounds 1 ?_
  rw [rounds_succ]
  go_wp2
  go_ret2
  exact ⟨rfl, rfl⟩
theorem index_no (w : World) (f : Value) : Calls Tryz.prog 92 #[.slice none 0 0, f] w fun e w' => e = .returned (.int .i64 (-1)) ∧ w' = w := by
  go_enter Tryz.func92, Tryz.ntmps92
  go_wp2
  refine wp_loop_rounds 1 ?_
  rw [rounds_succ]
  go_wp2
  go_ret
  exact ⟨rfl, rfl⟩
theorem delfunc_no (w : World) (f : Value) : Calls Tryz.prog 70 #[.slice none 0 0, f] w fun e w' => e = .returned (.slice none 0 0) ∧ w' = w := by
  go_enter Tryz.func70, Tryz.ntmps70
  go_wp2_with fail
  refine (index_no w f).mono ?_
  rintro e w1 ⟨rfl, rfl⟩
  go_wp2
  go_ret
  exact ⟨rfl, rfl⟩
theorem run_next_empty {w : World} {r M : Nat} (ty : TypeId) (hr : w.heap[r]? = some (.mapIter (some M) 0 #[] 0)) (hm : w.heap[M]? = some (.map #[] 0)) :
    (Instr.next (.pointer (some ⟨r, 0, none⟩)) false ty).run Tryz.prog w = .ok (.tuple #[.bool false]) w := by
  rcases run_next_at (P := Tryz.prog) w ty r M 0 0 #[] #[] 0 hr hm (by simp) (Nat.le_refl _) with ⟨-, h⟩ | ⟨e, he, -⟩
  · exact h
  · simp [leftOf] at he
theorem letgo_any {w : World} {T L M : Nat} {l : List Vn} (h : TX w T L M l) :
    Calls Tryz.prog 61 #[PB T] w fun e w' => e = .returned (.tuple #[]) ∧ TX w' T L M l ∧ Turn (fun k => k = T) w w' := by
  have hrg := run_range_map (P := Tryz.prog) w 66 112 107 M #[] 0 Tryz.underlying66 h.em
  have q1 := bel1 w (.mapIter (some M) 0 #[] 0)
  have h1 := h.later q1
  have hnx := fun ty => run_next_empty ty (heap_alloc_new w (.mapIter (some M) 0 #[] 0)) h1.em
  have c : w.cell? ⟨T, 14, none⟩ = some (.map (some M)) := (h.at_.2 14 _ rfl).1
  have c5 : (w.alloc (.mapIter (some M) 0 #[] 0)).cell? ⟨T, 15, none⟩ = some (.slice none 0 0) := (h1.at_.2 15 _ rfl).1
  have f5 := (h1.at_.2 15 _ rfl).2
  go_enter Tryz.func61, Tryz.ntmps61
  go_wp2
  refine wp_loop_rounds 1 ?_
  rw [rounds_succ]
  have q2 : Turn (fun k => k = T) w (w.alloc (.mapIter (some M) 0 #[] 0)) := Turn.of_below q1
  clear q1 c h
  obtain ⟨w2, hw2⟩ : ∃ x, x = w.alloc (.mapIter (some M) 0 #[] 0) := ⟨_, rfl⟩
  rw [← hw2] at h1 c5 f5 q2
  have hset := (h1.at_.set 15 (.slice none 0 0))
  rw [show (tabV L M).setIfInBounds 15 (.slice none 0 0) = tabV L M from rfl] at hset
  have ht := turn_set w2 T 15 (.slice none 0 0)
  have hfin : TX (w2.setCell ⟨T, 15, none⟩ (.slice none 0 0)) T L M l ∧ Turn (fun k => k = T) w (w2.setCell ⟨T, 15, none⟩ (.slice none 0 0)) :=
    ⟨⟨hset, h1.vm.turn ht (fun e => h1.n1 e.symm), (ht.block M h1.lt.2.2 (fun e => h1.n2 e.symm)).trans h1.em, h1.n1, h1.n2, h1.n3⟩, q2.trans ht⟩
  have HF : Hid _ := hfin
  clear hfin ht hset q2 h1
  rw [hw2] at c5 f5 HF
  clear hw2 w2
  go_wp2_with fail
  refine (delfunc_no _ _).mono ?_
  rintro e w3 ⟨rfl, rfl⟩
  go_wp2
  go_end0
  exact ⟨rfl, HF.out⟩
theorem silence_t {w : World} {T L M : Nat} {l : List Vn} {p : Int} (h : TX w T L M l) (h0 : 1 ≤ p) (h1 : p ≤ 65535) (hl : vlk l p = some EV) :
    Calls Tryz.prog 165 #[PB T, .int .i64 p] w fun e w' => e = .returned (.int .i64 0) ∧ TX w' T L M (vdel l p) ∧ Turn (fun k => k = T ∨ k = L) w w' := by
  have hwf := wfp h0 h1
  go_enter Tryz.func165, Tryz.ntmps165
  go_wp2_with fail
  refine (hears_any h (wfp h0 h1) (fun v hv => by rw [hl] at hv; cases hv; rfl)).mono ?_
  rintro e w2 ⟨rfl, hb⟩
  rw [hl]
  have h2 := h.later hb
  have c : w2.cell? ⟨T, 13, none⟩ = some (.map (some L)) := (h2.at_.2 13 _ rfl).1
  have hvm := h2.vm
  go_upto_region 4 with (first | (at_delete; refine wpList_delete_vm rfl _ _ rfl L l p hwf Tryz.underlying65 rfl hvm rfl ?_; intro w3 hvm3 ht3) | go_in)
  have h3 : TX w3 T L M (vdel l p) := ⟨h2.at_.turn ht3 (fun e => h.n1 e), hvm3, (ht3.block M h2.lt.2.2 (fun e => h.n3 e.symm)).trans h2.em, h.n1, h.n2, h.n3⟩
  have ht : Turn (fun k => k = T ∨ k = L) w w3 := (Turn.of_below hb).trans (ht3.mono fun k e => Or.inr e)
  have c5 : w3.cell? ⟨T, 15, none⟩ = some (.slice none 0 0) := (h3.at_.2 15 _ rfl).1
  clear hvm c h2 hb h ht3 hvm3
  go_wp2
  refine wp_loop_rounds 1 ?_
  rw [rounds_succ]
  go_wp2_with fail
  refine (letgo_any h3).mono ?_
  rintro e w4 ⟨rfl, h4, ht4⟩
  go_wp2
  go_ret
  exact ⟨rfl, h4, ht.trans (ht4.mono fun k e => Or.inl e)⟩
end Go.Proofs.YthbpapgfjmpgaaaGreat
