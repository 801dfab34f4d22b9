/- Rows of numbers; a cache, and New. -/
import Derived.Test.YtjldcillackhdaaNa
import Derived.Test.YtjldcillackhdaaNb
import Derived.Test.YtjldcillackhdaaAcalls
import Derived.Sort.OwnSortedInts
import Derived.Laws.OwnMore
import Derived.Laws.AppendOwnNone
namespace Go.Proofs.Ytjldcillackhdaa
open Go.Sort Go.RowKit Go.Maps Go.Proofs.Ytjldcillackhdaa.Eth Go.Proofs.Ytjldcillackhdaa.Eth.Arp
set_option maxRecDepth 100000
set_option linter.unusedVariables false
set_option linter.unusedSimpArgs false

/-- A slice of numbers of its own memory, from base on. -/
def Ints (w : World) (base : Nat) (v : Value) (zs : List Int) : Prop := w.ownsRow base 3 1 v zs.length (zs.map (Value.int .i64))
theorem own_ge {w : World} {base : Nat} {v : Value} {zs : List Int} (h : Ints w base v zs) : ∀ j, v.ownBlock = some j → base ≤ j := by
  intro j hj
  rcases h.2 with ⟨rfl, -⟩ | ⟨g, cap, cur, rfl, hg, -⟩
  · simp [Value.ownBlock] at hj
  · simp [Value.ownBlock] at hj; omega
theorem Ints.lt {w : World} {base : Nat} {v : Value} {zs : List Int} (h : Ints w base v zs) : ∀ k, v.ownBlock = some k → k < w.heap.size := fun k hk => (World.ownsRow.lt h k hk).2
theorem Ints.turn {S : Nat → Prop} {w w' : World} {base : Nat} {v : Value} {zs : List Int} (h : Ints w base v zs) (ht : Turn S w w') (hS : ∀ k, v.ownBlock = some k → ¬ S k) : Ints w' base v zs := by
  obtain ⟨i1, i2⟩ := h
  refine ⟨i1, ?_⟩
  rcases i2 with h | ⟨g, cap, cur, a1, a2, a3, a4⟩
  · exact Or.inl h
  · exact Or.inr ⟨g, cap, cur, a1, a2, (ht.block g (Array.getElem?_eq_some_iff.1 a3).1 (hS g (by rw [a1]; simp [Value.ownBlock]))).trans a3, a4⟩
theorem Ints.later {w x : World} {base : Nat} {v : Value} {zs : List Int} (h : Ints w base v zs) (hb : Below w.heap.size w x) : Ints x base v zs := h.turn (S := fun _ => False) (Turn.of_below hb) (fun _ _ h => h)
theorem Ints.low {w : World} {b b' : Nat} {v : Value} {zs : List Int} (h : Ints w b v zs) (hb : b' ≤ b) : Ints w b' v zs := by
  obtain ⟨h1, h2⟩ := h
  refine ⟨h1, ?_⟩
  rcases h2 with h | ⟨g, cap, cur, a1, a2, a3⟩
  · exact Or.inl h
  · exact Or.inr ⟨g, cap, cur, a1, Nat.le_trans hb a2, a3⟩
theorem Ints.cells {w : World} {base g n c : Nat} {zs : List Int} (h : Ints w base (.slice (some ⟨g, 0, none⟩) n c) zs) : n = zs.length ∧ ∀ j, j < zs.length → w.cell? ⟨g, 0 + j, none⟩ = some (.int .i64 (zs.getD j 0)) := by
  have hn : n = zs.length := by
    rcases h.2 with ⟨h2, -⟩ | ⟨g2, cap2, cur2, h2, -⟩
    · cases h2
    · injection h2
  refine ⟨hn, fun j hj => ?_⟩
  subst hn
  have := World.ownsRow.cellAt h j (by omega)
  rw [Nat.zero_add]
  rw [show (zs.map (Value.int .i64))[j]? = some (.int .i64 (zs.getD j 0)) by simp [List.getD, hj]] at this
  exact this
/-- slices.Sort of a slice of our own. -/
theorem sort_ints (base : Nat) (v : Value) (zs : List Int) (w : World) (h : Ints w base v zs) (hn : zs.length < 1000000) :
    Calls Try.prog 39 #[v] w fun e w' => e = .returned (.tuple #[]) ∧ Ints w' base v (zs.mergeSort fun x y => decide (x ≤ y)) ∧ Turn (fun k => v.ownBlock = some k) w w' := by
  have hl : (zs.mergeSort fun x y => decide (x ≤ y)).length = zs.length := List.length_mergeSort zs
  rcases h.2 with ⟨rfl, h0⟩ | ⟨g, cap, cur, rfl, hg, hb, h1, h2, h3, h4⟩
  · obtain rfl : zs = [] := List.length_eq_zero_iff.1 h0
    refine (Any.slices_Sort_int_none Try.lays_189 none 0 w).mono ?_
    rintro e w' ⟨rfl, rfl⟩
    exact ⟨rfl, by simpa using h, Turn.refl _⟩
  · have hH := holds_of_blockI (ss := zs) hb (by rw [Nat.mul_one] at h4; exact h4)
    refine (Any.slices_Sort_int Try.lays_189 g 0 cap zs w hH (Array.getElem?_eq_some_iff.1 hb).1 (by omega)).mono ?_
    rintro e w' ⟨rfl, n, os, rfl⟩
    refine ⟨rfl, ?_, Turn.of_grown (grownBy_sortedI _) (fun j hj => by cases hj; exact Or.inl rfl)⟩
    have := ownsRow_sortedI (w := w) (base := base) (n := n) (os := os) (ss := zs) hl hg hb h1 h2 h3
    unfold Ints
    rw [hl]
    exact this
/-- slices.BinarySearch in a rising list. -/
theorem search_any (base g n c : Nat) (zs : List Int) (x : Int) (w : World) (h : Ints w base (.slice (some ⟨g, 0, none⟩) n c) zs) (hs : zs.Pairwise (· ≤ ·)) (hn : zs.length < 1000000) :
    Calls Try.prog 33 #[.slice (some ⟨g, 0, none⟩) n c, .int .i64 x] w fun e w' => e = .returned (.tuple #[.int .i64 (zs.countP (· < x) : Nat), .bool (zs.contains x)]) ∧ ∃ q, w' = w.drewN q := by
  obtain ⟨rfl, hc⟩ := h.cells
  refine (Any.slices_BinarySearch_int Try.lays2_25 g 0 zs.length c zs x w (Nat.le_refl _) (by omega) hc (by rw [List.take_length]; exact hs)).mono ?_
  rintro e w' ⟨rfl, q, rfl⟩
  rw [List.take_length]
  exact ⟨rfl, q, rfl⟩
theorem fits_any (n m : Int) (w : World) : Calls Try.prog 52 #[.int .i64 n, .int .i64 m] w fun e w' => e = .returned (.bool (decide (1 ≤ n) && decide (n ≤ m))) ∧ w' = w := by
  go_enter Try.func52, Try.ntmps52
  by_cases h : 1 ≤ n
  · go_wp2
    go_ret
    exact ⟨by simp [h], rfl⟩
  · go_wp2
    go_ret
    exact ⟨by rw [decide_eq_false (by omega)]; rfl, rfl⟩
def ipB (n : Int) : Bool := decide (0 ≤ n) && decide (n ≤ 4294967295)
theorem isip_any (n : Int) (w : World) : Calls Try.prog 20 #[.int .i64 n] w fun e w' => e = .returned (.bool (ipB n)) ∧ w' = w := by
  unfold ipB
  go_enter Try.func20, Try.ntmps20
  by_cases h : 0 ≤ n
  · go_wp2
    go_ret
    exact ⟨by simp [h], rfl⟩
  · go_wp2
    go_ret
    exact ⟨by rw [decide_eq_false (by omega)]; rfl, rfl⟩
theorem allip_one (b off c : Nat) (x : Int) (w : World) (hc : w.cell? ⟨b, off, none⟩ = some (.int .i64 x)) (hx : ipB x = true) :
    Calls Try.prog 37 #[.slice (some ⟨b, off, none⟩) 1 c] w fun e w' => e = .returned (.bool true) ∧ w' = w := by
  go_enter Try.func37, Try.ntmps37
  go_wp2
  refine wp_loop_rounds 2 ?_
  rw [rounds_succ]
  go_wp2_with fail
  refine (isip_any x w).mono ?_
  rintro e w' ⟨rfl, rfl⟩
  rw [hx]
  go_wp2
  rw [rounds_succ]
  go_wp2
  go_ret
  exact ⟨rfl, rfl⟩
theorem compact_one (a : Addr) (c : Nat) (w : World) : Calls Try.prog 40 #[.slice (some a) 1 c] w fun e w' => e = .returned (.slice (some a) 1 c) ∧ w' = w := by
  go_enter Try.func40, Try.ntmps40
  go_wp2
  go_ret
  exact ⟨rfl, rfl⟩
def setB (mac ag pa ro wa : Int) : Bool := decide ((0 ≤ mac ∧ mac ≤ 281474976710655) ∧ mac / 1099511627776 % 2 = 0 ∧ (1 ≤ ag ∧ ag ≤ 1048576) ∧ (1 ≤ pa ∧ pa ≤ 1048576) ∧ (1 ≤ ro ∧ ro ≤ 1024) ∧ (1 ≤ wa ∧ wa ≤ 1024))
theorem fits_t {n m : Int} (h : 1 ≤ n ∧ n ≤ m) (w : World) : Calls Try.prog 52 #[.int .i64 n, .int .i64 m] w fun e w' => e = .returned (.bool true) ∧ w' = w := by
  refine (fits_any n m w).mono ?_
  rintro e w' ⟨rfl, rfl⟩
  rw [decide_eq_true h.1, decide_eq_true h.2]
  exact ⟨rfl, rfl⟩
theorem maybe_t (mac ag pa ro wa : Int) (w : World) (h : setB mac ag pa ro wa = true) :
    Calls Try.prog 36 #[.agg #[.int .i64 mac, .int .i64 ag, .int .i64 pa, .int .i64 ro, .int .i64 wa]] w fun e w' => e = .returned (.bool true) ∧ Below w.heap.size w w' := by
  obtain ⟨h1, h2, h3, h4, h5, h6⟩ := of_decide_eq_true h
  have hb := bel1 w (.cells #[.int .i64 mac, .int .i64 ag, .int .i64 pa, .int .i64 ro, .int .i64 wa] 57)
  have hA := At.box w #[.int .i64 mac, .int .i64 ag, .int .i64 pa, .int .i64 ro, .int .i64 wa] 57
  go_enter Try.func36, Try.ntmps36
  go_upto_region 1 with fail
  generalize w.alloc (.cells #[.int .i64 mac, .int .i64 ag, .int .i64 pa, .int .i64 ro, .int .i64 wa] 57) = w1 at *
  have c0 : w1.cell? ⟨w.heap.size, 0, none⟩ = some (.int .i64 mac) := (hA.2 0 _ rfl).1
  have c1 : w1.cell? ⟨w.heap.size, 1, none⟩ = some (.int .i64 ag) := (hA.2 1 _ rfl).1
  have c2 : w1.cell? ⟨w.heap.size, 2, none⟩ = some (.int .i64 pa) := (hA.2 2 _ rfl).1
  have c3 : w1.cell? ⟨w.heap.size, 3, none⟩ = some (.int .i64 ro) := (hA.2 3 _ rfl).1
  have c4 : w1.cell? ⟨w.heap.size, 4, none⟩ = some (.int .i64 wa) := (hA.2 4 _ rfl).1
  have hm : macB mac = true := decide_eq_true h1
  have hg : grpB mac = false := by unfold grpB; exact decide_eq_false (by omega)
  go_wp2_with fail
  refine (pgroup_any mac w1).mono ?_
  rintro e w2 ⟨rfl, rfl⟩
  rw [hm, hg, show codeB true = 0 from rfl, Bool.and_false]
  go_wp2_with fail
  refine (fits_t h3 w2).mono ?_
  rintro e w2 ⟨rfl, rfl⟩
  go_wp2_with fail
  refine (fits_t h4 _).mono ?_
  rintro e w2 ⟨rfl, rfl⟩
  go_wp2_with fail
  refine (fits_t h5 _).mono ?_
  rintro e w2 ⟨rfl, rfl⟩
  go_wp2_with fail
  refine (fits_t h6 _).mono ?_
  rintro e w2 ⟨rfl, rfl⟩
  go_wp2
  go_ret
  exact ⟨rfl, hb⟩
/-- A cache: its ten cells. -/
def cV (mac ag pa ro wa : Int) (ow : Value) (la : Int) (M A : Nat) (wt : Int) : Array Value := #[.int .i64 mac, .int .i64 ag, .int .i64 pa, .int .i64 ro, .int .i64 wa, ow, .int .i64 la, .map (some M), .map (some A), .int .i64 wt]
theorem new_end (w : World) (vs : Array Value) : VM (((w.drew.alloc (.map #[] 0)).alloc (.map #[] 0)).alloc (.cells vs 64)) w.heap.size [] ∧ VM (((w.drew.alloc (.map #[] 0)).alloc (.map #[] 0)).alloc (.cells vs 64)) (w.heap.size + 1) [] ∧ At (((w.drew.alloc (.map #[] 0)).alloc (.map #[] 0)).alloc (.cells vs 64)) (w.heap.size + 2) vs ∧ Below w.heap.size w (((w.drew.alloc (.map #[] 0)).alloc (.map #[] 0)).alloc (.cells vs 64)) := by
  have q0 : Below w.heap.size w w.drew := ⟨rfl, rfl, rfl, Nat.le_refl _, fun _ _ => rfl⟩
  have q1 := bel1 w.drew (.map #[] 0)
  have q2 := bel1 (w.drew.alloc (.map #[] 0)) (.map #[] 0)
  have q3 := bel1 ((w.drew.alloc (.map #[] 0)).alloc (.map #[] 0)) (.cells vs 64)
  have v1 := VM.made w.drew
  have v2 := VM.made (w.drew.alloc (.map #[] 0))
  have a3 := At.box ((w.drew.alloc (.map #[] 0)).alloc (.map #[] 0)) vs 64
  rw [show (w.drew.alloc (.map #[] 0)).heap.size = w.heap.size + 1 by simp] at v2
  rw [show ((w.drew.alloc (.map #[] 0)).alloc (.map #[] 0)).heap.size = w.heap.size + 2 by simp] at a3
  exact ⟨(v1.later q2).later q3, v2.later q3, a3, bt q0 (bt q1 (bt q2 q3))⟩
theorem one_cells {w : World} {b off : Nat} {x : Int} (hc : w.cell? ⟨b, off, none⟩ = some (.int .i64 x)) : ∀ j, j < [x].length → w.cell? ⟨b, off + j, none⟩ = some (.int .i64 ([x].getD j 0)) := by
  intro j hj
  obtain rfl : j = 0 := by simpa using hj
  rw [Nat.add_zero]
  exact hc
set_option maxHeartbeats 4000000 in
theorem new_t (mac ag pa ro wa x : Int) (b off c : Nat) (w : World) (h : setB mac ag pa ro wa = true) (hc : w.cell? ⟨b, off, none⟩ = some (.int .i64 x)) (hx : ipB x = true) :
    Calls Try.prog 17 #[.agg #[.int .i64 mac, .int .i64 ag, .int .i64 pa, .int .i64 ro, .int .i64 wa], .slice (some ⟨b, off, none⟩) 1 c] w fun e w' => ∃ C M A g cc, e = .returned (.tuple #[.pointer (some ⟨C, 0, none⟩), .int .i64 0]) ∧ At w' C (cV mac ag pa ro wa (.slice (some ⟨g, 0, none⟩) 1 cc) 0 M A 0) ∧ Ints w' w.heap.size (.slice (some ⟨g, 0, none⟩) 1 cc) [x] ∧ VM w' M [] ∧ VM w' A [] ∧ (w.heap.size ≤ C ∧ w.heap.size ≤ M ∧ w.heap.size ≤ A ∧ w.heap.size ≤ g) ∧ (M ≠ A ∧ g ≠ C ∧ g ≠ M ∧ g ≠ A) ∧ Below w.heap.size w w' := by
  have hmm := @run_makeMap Try.prog
  have hb := bel1 w (.cells #[.int .i64 mac, .int .i64 ag, .int .i64 pa, .int .i64 ro, .int .i64 wa] 57)
  have hA := At.box w #[.int .i64 mac, .int .i64 ag, .int .i64 pa, .int .i64 ro, .int .i64 wa] 57
  go_enter Try.func17, Try.ntmps17
  go_upto_region 1 with fail
  replace hc := later hb hc
  generalize w.alloc (.cells #[.int .i64 mac, .int .i64 ag, .int .i64 pa, .int .i64 ro, .int .i64 wa] 57) = w1 at *
  have c0 : w1.cell? ⟨w.heap.size, 0, none⟩ = some (.int .i64 mac) := (hA.2 0 _ rfl).1
  have c1 : w1.cell? ⟨w.heap.size, 1, none⟩ = some (.int .i64 ag) := (hA.2 1 _ rfl).1
  have c2 : w1.cell? ⟨w.heap.size, 2, none⟩ = some (.int .i64 pa) := (hA.2 2 _ rfl).1
  have c3 : w1.cell? ⟨w.heap.size, 3, none⟩ = some (.int .i64 ro) := (hA.2 3 _ rfl).1
  have c4 : w1.cell? ⟨w.heap.size, 4, none⟩ = some (.int .i64 wa) := (hA.2 4 _ rfl).1
  go_wp2_with fail
  refine (maybe_t mac ag pa ro wa w1 h).mono ?_
  rintro e w2 ⟨rfl, hb2⟩
  replace hc := later hb2 hc
  go_wp2_with fail
  refine (allip_one b off c x w2 hc hx).mono ?_
  rintro e w2 ⟨rfl, rfl⟩
  go_wp2_with fail
  refine (Any.slices_Clone_int Try.lays2_15 b off 1 c [x] w2 (by simp) (by decide) (one_cells hc)).mono ?_
  rintro e w3 ⟨v, rfl, hrow, hne, hb3⟩
  have hI : Ints w3 w2.heap.size v [x] := hrow
  go_wp2_with fail
  refine (sort_ints w2.heap.size v [x] w3 hI (by simp)).mono ?_
  rintro e w4 ⟨rfl, hI4, ht4⟩
  rw [show ([x].mergeSort fun x y => decide (x ≤ y)) = [x] by simp] at hI4
  obtain ⟨g, cc, rfl⟩ : ∃ g cc, v = .slice (some ⟨g, 0, none⟩) 1 cc := by
    rcases hI4.2 with ⟨h2, -⟩ | ⟨g2, cap2, cur2, h2, -⟩
    · exact absurd h2 hne
    · exact ⟨g2, cap2, h2⟩
  have hg2 := own_ge hI4 g rfl
  have hglt := hI4.lt g rfl
  have hs2 : w.heap.size < w2.heap.size := Nat.lt_of_lt_of_le hA.1 hb2.size
  have hb04 : Below w.heap.size w w4 := (bt hb (bt hb2 hb3)).trans (ht4.below (bt hb (bt hb2 hb3)).size (fun k hk e => by have := own_ge hI k e; omega))
  have hA4 : At w4 w.heap.size #[.int .i64 mac, .int .i64 ag, .int .i64 pa, .int .i64 ro, .int .i64 wa] := ((hA.later hb2).later hb3).turn ht4 (fun e => by have := own_ge hI _ e; omega)
  clear hA hI hrow hc c0 c1 c2 c3 c4 hb hb2 hb3 ht4 hne
  have c0 : w4.cell? ⟨w.heap.size, 0, none⟩ = some (.int .i64 mac) := (hA4.2 0 _ rfl).1
  have c1 : w4.cell? ⟨w.heap.size, 1, none⟩ = some (.int .i64 ag) := (hA4.2 1 _ rfl).1
  have c2 : w4.cell? ⟨w.heap.size, 2, none⟩ = some (.int .i64 pa) := (hA4.2 2 _ rfl).1
  have c3 : w4.cell? ⟨w.heap.size, 3, none⟩ = some (.int .i64 ro) := (hA4.2 3 _ rfl).1
  have c4 : w4.cell? ⟨w.heap.size, 4, none⟩ = some (.int .i64 wa) := (hA4.2 4 _ rfl).1
  go_upto_region 5 with fail
  have hlt4 : w.heap.size < w4.heap.size := hA4.1
  have hlt5 : w.heap.size < w4.heap.size + 1 := by omega
  have hne4 : ¬ w.heap.size = w4.heap.size := by omega
  have hne5 : ¬ w.heap.size = w4.heap.size + 1 := by omega
  go_region_with (go_at_call 40; refine (compact_one _ cc _).mono ?_; rintro e w' ⟨rfl, rfl⟩)
  all_goals go_wp2
  all_goals go_ret2
  all_goals first
    | (obtain ⟨e1, e2, e3, e4⟩ := new_end w4 (cV mac ag pa ro wa (.slice (some ⟨g, 0, none⟩) 1 cc) 0 w4.heap.size (w4.heap.size + 1) 0); exact ⟨w4.heap.size + 2, w4.heap.size, w4.heap.size + 1, g, cc, rfl, e3, (hI4.later e4).low (by omega), e1, e2, ⟨by omega, by omega, by omega, by omega⟩, ⟨by omega, by omega, by omega, by omega⟩, bt hb04 e4⟩)
    | (obtain ⟨e1, e2, e3, e4⟩ := new_end w4 (cV mac ag pa ro wa (.slice (some ⟨g, 0, none⟩) 1 cc) 0 (w4.heap.size + 1) w4.heap.size 0); exact ⟨w4.heap.size + 2, w4.heap.size + 1, w4.heap.size, g, cc, rfl, e3, (hI4.later e4).low (by omega), e2, e1, ⟨by omega, by omega, by omega, by omega⟩, ⟨by omega, by omega, by omega, by omega⟩, bt hb04 e4⟩)
end Go.Proofs.Ytjldcillackhdaa
