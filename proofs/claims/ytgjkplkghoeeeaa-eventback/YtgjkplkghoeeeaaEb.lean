/- Which events may be; the document's bytes of an event. -/
import Derived.Test.YtgjkplkghoeeeaaEa
import Derived.Test.YtgjkplkghoeeeaaPe
import Derived.Deep.RegionHeld3
namespace Go.Proofs.Ytgjkplkghoeeeaa
open Go.RowKit
set_option maxRecDepth 100000
set_option linter.unusedVariables false
set_option linter.unusedSimpArgs false


theorem keep3 {w W x : World} {a b c : Addr} {v0 v1 v2 : Value} (hb : Below W.heap.size W x) (h : Below w.heap.size w W ∧ W.cell? a = some v0 ∧ W.cell? b = some v1 ∧ W.cell? c = some v2) :
    Below w.heap.size w x ∧ x.cell? a = some v0 ∧ x.cell? b = some v1 ∧ x.cell? c = some v2 :=
  ⟨bt h.1 hb, later hb h.2.1, later hb h.2.2.1, later hb h.2.2.2⟩
theorem ret_code {a b : Int} (h : a = b) : Ending.returned (.int .i64 a) = .returned (.int .i64 b) := by rw [h]
theorem em_any (s : ByteArray) : s.toList.isEmpty = decide (s.size = 0) := by
  rw [ByteArray.toList_eq]
  by_cases h : s.size = 0
  · rw [empty_of h]; rfl
  · rw [decide_eq_false h, Bool.eq_false_iff]
    intro e
    have := List.isEmpty_iff.1 e
    have h2 := len_toList s
    rw [this] at h2
    exact h h2.symm
theorem em_t {s : ByteArray} (h : s.size = 0) : s.toList.isEmpty = true := by rw [em_any]; exact decide_eq_true h
theorem em_f {s : ByteArray} (h : ¬ s.size = 0) : s.toList.isEmpty = false := by rw [em_any]; exact decide_eq_false h
theorem may_ways (k t : Int) (d : ByteArray) :
    (codeE ⟨k, t, d⟩ = 230 ∧ t < 0) ∨ (codeE ⟨k, t, d⟩ = 230 ∧ ¬ t < 0 ∧ 1099511627776 < t) ∨
    ((¬ t < 0 ∧ ¬ 1099511627776 < t) ∧ ((codeE ⟨k, t, d⟩ = 0 ∧ k = 1 ∧ d.size ≤ 1514) ∨ (codeE ⟨k, t, d⟩ = 230 ∧ k = 1 ∧ ¬ d.size ≤ 1514) ∨ (codeE ⟨k, t, d⟩ = 0 ∧ k = 2 ∧ d = ⟨#[]⟩) ∨ (codeE ⟨k, t, d⟩ = 230 ∧ k = 2 ∧ d.toList.isEmpty = false) ∨ (codeE ⟨k, t, d⟩ = 230 ∧ (k == 1) = false ∧ (k == 2) = false))) := by
  have ht : ∀ b : Bool, mayE ⟨k, t, d⟩ = b → codeE ⟨k, t, d⟩ = if b = true then 0 else 230 := fun b h => by unfold codeE; rw [h]
  have hn : ∀ h : ¬ (0 ≤ t ∧ t ≤ 1099511627776 ∧ ((k = 1 ∧ d.size ≤ 1514) ∨ (k = 2 ∧ d.size = 0))), codeE ⟨k, t, d⟩ = 230 := fun h => ht false (decide_eq_false h)
  have hy : ∀ h : (0 ≤ t ∧ t ≤ 1099511627776 ∧ ((k = 1 ∧ d.size ≤ 1514) ∨ (k = 2 ∧ d.size = 0))), codeE ⟨k, t, d⟩ = 0 := fun h => ht true (decide_eq_true h)
  by_cases h1 : t < 0
  · exact .inl ⟨hn (by omega), h1⟩
  by_cases h2 : 1099511627776 < t
  · exact .inr (.inl ⟨hn (by omega), h1, h2⟩)
  refine .inr (.inr ⟨⟨h1, h2⟩, ?_⟩)
  by_cases h3 : k = 1
  · by_cases h4 : d.size ≤ 1514
    · exact .inl ⟨hy (by omega), h3, h4⟩
    · exact .inr (.inl ⟨hn (by omega), h3, h4⟩)
  by_cases h5 : k = 2
  · by_cases h4 : d.size = 0
    · exact .inr (.inr (.inl ⟨hy (by omega), h5, empty_of h4⟩))
    · refine .inr (.inr (.inr (.inl ⟨hn (by omega), h5, ?_⟩)))
      rw [em_any]
      exact decide_eq_false h4
  · exact .inr (.inr (.inr (.inr ⟨hn (by omega), by simpa using h3, by simpa using h5⟩)))
set_option maxHeartbeats 1000000 in
theorem check_any (k t : Int) (d : ByteArray) (w : World) (hd : d.size ≤ maxLen) :
    Calls Try.prog 12 #[.agg #[.int .i64 k, .int .i64 t, .string d]] w fun e w' => e = .returned (.int .i64 (codeE ⟨k, t, d⟩)) ∧ Below w.heap.size w w' := by
  unfold maxLen at hd
  obtain ⟨⟨c0, c1, c2⟩, -, hlt⟩ := (At.box w #[.int .i64 k, .int .i64 t, .string d] 23).three
  have hbel := bel1 w
  rcases may_ways k t d with ⟨hr, h1⟩ | ⟨hr, h1, h2⟩ | ⟨⟨h1, h2⟩, ⟨hr, h3, h4⟩ | ⟨hr, h3, h4⟩ | ⟨hr, h3, h4⟩ | ⟨hr, h3, h4⟩ | ⟨hr, h3, h4⟩⟩
  all_goals
    rw [hr]
    clear hr
  · have t1 : decide (t < 0) = true := decide_eq_true h1
    go_enter Try.func12, Try.ntmps12
    go_wp2
    go_ret
    exact ⟨rfl, hbel _⟩
  · have t1 : decide (t < 0) = false := decide_eq_false h1
    have t2 : decide ((1099511627776 : Int) < t) = true := decide_eq_true h2
    go_enter Try.func12, Try.ntmps12
    go_wp2
    go_ret
    exact ⟨rfl, hbel _⟩
  · have t1 : decide (t < 0) = false := decide_eq_false h1
    have t2 : decide ((1099511627776 : Int) < t) = false := decide_eq_false h2
    subst h3
    have t3 : decide ((d.size : Int) ≤ 1514) = true := decide_eq_true (by omega)
    go_enter Try.func12, Try.ntmps12
    go_wp2
    go_ret
    exact ⟨rfl, hbel _⟩
  · have t1 : decide (t < 0) = false := decide_eq_false h1
    have t2 : decide ((1099511627776 : Int) < t) = false := decide_eq_false h2
    subst h3
    have t3 : decide ((d.size : Int) ≤ 1514) = false := decide_eq_false (by omega)
    go_enter Try.func12, Try.ntmps12
    go_wp2
    go_ret
    exact ⟨rfl, hbel _⟩
  · have t1 : decide (t < 0) = false := decide_eq_false h1
    have t2 : decide ((1099511627776 : Int) < t) = false := decide_eq_false h2
    subst h3
    subst h4
    go_enter Try.func12, Try.ntmps12
    go_wp2
    go_ret
    exact ⟨rfl, hbel _⟩
  · have t1 : decide (t < 0) = false := decide_eq_false h1
    have t2 : decide ((1099511627776 : Int) < t) = false := decide_eq_false h2
    subst h3
    go_enter Try.func12, Try.ntmps12
    go_wp2
    go_ret
    exact ⟨rfl, hbel _⟩
  · have t1 : decide (t < 0) = false := decide_eq_false h1
    have t2 : decide ((1099511627776 : Int) < t) = false := decide_eq_false h2
    go_enter Try.func12, Try.ntmps12
    go_wp2
    go_ret
    exact ⟨rfl, hbel _⟩
set_option maxHeartbeats 1000000 in
theorem rchk_any (k t : Int) (d : ByteArray) (w : World) (hd : d.size ≤ maxLen) :
    Calls Try.prog 13 #[.agg #[.int .i64 k, .int .i64 t, .string d]] w fun e w' => e = .returned (.int .i64 (codeE ⟨k, t, d⟩)) ∧ Below w.heap.size w w' := by
  unfold maxLen at hd
  obtain ⟨⟨c0, c1, c2⟩, -, hlt⟩ := (At.box w #[.int .i64 k, .int .i64 t, .string d] 23).three
  have hbel := bel1 w
  rcases may_ways k t d with ⟨hr, h1⟩ | ⟨hr, h1, h2⟩ | ⟨⟨h1, h2⟩, ⟨hr, h3, h4⟩ | ⟨hr, h3, h4⟩ | ⟨hr, h3, h4⟩ | ⟨hr, h3, h4⟩ | ⟨hr, h3, h4⟩⟩
  all_goals
    rw [hr]
    clear hr
  · have t1 : decide (t < 0) = true := decide_eq_true h1
    go_enter Try.func13, Try.ntmps13
    go_wp2
    go_ret
    exact ⟨rfl, hbel _⟩
  · have t1 : decide (t < 0) = false := decide_eq_false h1
    have t2 : decide ((1099511627776 : Int) < t) = true := decide_eq_true h2
    go_enter Try.func13, Try.ntmps13
    go_wp2
    go_ret
    exact ⟨rfl, hbel _⟩
  · have t1 : decide (t < 0) = false := decide_eq_false h1
    have t2 : decide ((1099511627776 : Int) < t) = false := decide_eq_false h2
    subst h3
    have t3 : decide ((d.size : Int) ≤ 1514) = true := decide_eq_true (by omega)
    go_enter Try.func13, Try.ntmps13
    go_wp2
    go_ret
    exact ⟨rfl, hbel _⟩
  · have t1 : decide (t < 0) = false := decide_eq_false h1
    have t2 : decide ((1099511627776 : Int) < t) = false := decide_eq_false h2
    subst h3
    have t3 : decide ((d.size : Int) ≤ 1514) = false := decide_eq_false (by omega)
    go_enter Try.func13, Try.ntmps13
    go_wp2
    go_ret
    exact ⟨rfl, hbel _⟩
  · have t1 : decide (t < 0) = false := decide_eq_false h1
    have t2 : decide ((1099511627776 : Int) < t) = false := decide_eq_false h2
    subst h3
    subst h4
    go_enter Try.func13, Try.ntmps13
    go_wp2
    go_ret
    exact ⟨rfl, hbel _⟩
  · have t1 : decide (t < 0) = false := decide_eq_false h1
    have t2 : decide ((1099511627776 : Int) < t) = false := decide_eq_false h2
    subst h3
    go_enter Try.func13, Try.ntmps13
    go_wp2
    go_ret
    exact ⟨rfl, hbel _⟩
  · have t1 : decide (t < 0) = false := decide_eq_false h1
    have t2 : decide ((1099511627776 : Int) < t) = false := decide_eq_false h2
    go_enter Try.func13, Try.ntmps13
    go_wp2
    go_ret
    exact ⟨rfl, hbel _⟩

def txI (n k : Int) : ByteArray := txt n k.toNat
theorem txI_size (n k : Int) : (txI n k).size = k.toNat := txt_size _ _
theorem rtextI (n k : Int) (w : World) (k0 : 1 ≤ k) (k1 : k ≤ 6) :
    Calls Try.prog 36 #[.int .i64 n, .int .i64 k] w fun e w' => e = .returned (.string (txI n k)) ∧ Below w.heap.size w w' := by
  obtain ⟨K, rfl⟩ := Int.eq_ofNat_of_zero_le (show 0 ≤ k by omega)
  exact rtext_any n K w (by omega) (by omega)
set_option maxHeartbeats 1000000 in
theorem rtxt_any (k t : Int) (d : ByteArray) (w : World) (hd : d.size ≤ 1514) :
    Calls Try.prog 28 #[.agg #[.int .i64 k, .int .i64 t, .string d]] w fun e w' => e = .returned (.string (encE ⟨k, t, d⟩)) ∧ Below w.heap.size w w' := by
  obtain ⟨⟨c0, c1, c2⟩, -, hlt⟩ := (At.box w #[.int .i64 k, .int .i64 t, .string d] 23).three
  have hx := And.intro c0 (And.intro c1 c2)
  clear c0 c1 c2 hlt
  have hbel := bel1 w
  show Calls Try.prog 28 #[.agg #[.int .i64 k, .int .i64 t, .string d]] w fun e w' => e = .returned (.string (txI k 1 ++ txI t 6 ++ txI d.size 2 ++ d)) ∧ Below w.heap.size w w'
  have z : (6 : Int).toNat = 6 ∧ (2 : Int).toNat = 2 ∧ (1 : Int).toNat = 1 := ⟨rfl, rfl, rfl⟩
  have r1 : ∀ W, (Op.stringOp .add (txI k 1) (txI t 6)).run Try.prog W = .ok (.string (txI k 1 ++ txI t 6)) W := fun W => run_string_add_sum W _ _ (by rw [txI_size, txI_size]; omega)
  have r2 : ∀ W, (Op.stringOp .add (txI k 1 ++ txI t 6) (txI d.size 2)).run Try.prog W = .ok (.string (txI k 1 ++ txI t 6 ++ txI d.size 2)) W := fun W => run_string_add_sum W _ _ (by rw [ByteArray.size_append, txI_size, txI_size, txI_size]; omega)
  have r3 : ∀ W, (Op.stringOp .add (txI k 1 ++ txI t 6 ++ txI d.size 2) d).run Try.prog W = .ok (.string (txI k 1 ++ txI t 6 ++ txI d.size 2 ++ d)) W := fun W => run_string_add_sum W _ _ (by rw [ByteArray.size_append, ByteArray.size_append, txI_size, txI_size, txI_size]; omega)
  go_enter Try.func28, Try.ntmps28
  go_wp2
  have hx5 := And.intro (hbel (.cells #[.int .i64 k, .int .i64 t, .string d] 23)) hx
  clear hx hbel
  generalize w.alloc (.cells #[.int .i64 k, .int .i64 t, .string d] 23) = W0 at hx5 ⊢
  go_region_held3 (fun W => Below w.heap.size w W ∧ W.cell? ⟨w.heap.size, 0, none⟩ = some (.int .i64 k) ∧ W.cell? ⟨w.heap.size, 1, none⟩ = some (.int .i64 t) ∧ W.cell? ⟨w.heap.size, 2, none⟩ = some (.string d)) (first | exact ⟨hx5.1.drew, hx5.2.1, hx5.2.2.1, hx5.2.2.2⟩ | (refine keep3 hb ?_; assumption)) ((go_at_call 36; refine (rtextI _ _ _ (by decide) (by decide)).mono ?_; rintro e w' ⟨rfl, hb⟩))
  all_goals
    go_wp2
    go_ret
    rename_i hq
    exact ⟨rfl, hq.1⟩
theorem codeE_t {x : Ev} (h : mayE x = true) : codeE x = 0 := if_pos h
theorem codeE_f {x : Ev} (h : mayE x = false) : codeE x = 230 := if_neg (by simp [h])
theorem encV_t {x : Ev} (h : mayE x = true) : encV x = encE x := if_pos h
theorem encV_f {x : Ev} (h : mayE x = false) : encV x = ⟨#[]⟩ := if_neg (by simp [h])
theorem renc_any (k t : Int) (d : ByteArray) (w : World) (hd : d.size ≤ maxLen) :
    Calls Try.prog 7 #[.agg #[.int .i64 k, .int .i64 t, .string d]] w fun e w' => e = .returned (.tuple #[.string (encV ⟨k, t, d⟩), .int .i64 (codeE ⟨k, t, d⟩)]) ∧ Below w.heap.size w w' := by
  have hA := At.box w #[.int .i64 k, .int .i64 t, .string d] 23
  obtain ⟨⟨c0, c1, c2⟩, -, -⟩ := hA.three
  have hbel := bel1 w
  rcases Bool.eq_false_or_eq_true (mayE ⟨k, t, d⟩) with h | h
  · rw [codeE_t h, encV_t h]
    go_enter Try.func7, Try.ntmps7
    go_wp2_with fail
    refine (rchk_any _ _ _ _ hd).mono ?_
    rw [codeE_t h]
    rintro e w1 ⟨rfl, hb1⟩
    have z := mayE_size h
    clear c0 c1 c2
    obtain ⟨⟨c0, c1, c2⟩, -, -⟩ := (hA.later hb1).three
    go_wp2_with fail
    refine (rtxt_any _ _ _ _ z).mono ?_
    rintro e w2 ⟨rfl, hb2⟩
    go_wp2
    go_ret2
    exact ⟨rfl, bt (bt (hbel _) hb1) hb2⟩
  · rw [codeE_f h, encV_f h]
    go_enter Try.func7, Try.ntmps7
    go_wp2_with fail
    refine (rchk_any _ _ _ _ hd).mono ?_
    rw [codeE_f h]
    rintro e w1 ⟨rfl, hb1⟩
    go_wp2
    go_ret2
    exact ⟨rfl, bt (hbel _) hb1⟩
end Go.Proofs.Ytgjkplkghoeeeaa
