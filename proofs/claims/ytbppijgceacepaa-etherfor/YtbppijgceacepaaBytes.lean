/- The contract of the document's Bytes. -/
import Derived.Test.YtbppijgceacepaaEncodes
import Derived.Deep.RegionHeld3
namespace Go.Proofs.Ytbppijgceacepaa
open Go.RowKit

def txI (n k : Int) : ByteArray := txt n k.toNat
theorem txI_size (n k : Int) : (txI n k).size = k.toNat := txt_size _ _
theorem rtextI (n k : Int) (w : World) (k0 : 1 ≤ k) (k1 : k ≤ 6) :
    Calls Try.prog 33 #[.int .i64 n, .int .i64 k] w fun e w' => e = .returned (.string (txI n k)) ∧ Below w.heap.size w w' := by
  obtain ⟨K, rfl⟩ := Int.eq_ofNat_of_zero_le (show 0 ≤ k by omega)
  exact rtext_any n K w (by omega) (by omega)

set_option maxHeartbeats 1000000 in
theorem rbytes_any (t f k : Int) (d : ByteArray) (w : World) (hd : d.size ≤ 1500) :
    Calls Try.prog 23 #[.agg #[.int .i64 t, .int .i64 f, .int .i64 k, .string d]] w fun e w' => e = .returned (.string (encS t f k d)) ∧ Below w.heap.size w w' := by
  have hx := box4 w (.int .i64 t) (.int .i64 f) (.int .i64 k) (.string d) 23
  have hbel := bel1 w
  show Calls Try.prog 23 #[.agg #[.int .i64 t, .int .i64 f, .int .i64 k, .string d]] w fun e w' => e = .returned (.string (txI t 6 ++ txI f 6 ++ txI k 2 ++ d)) ∧ Below w.heap.size w w'
  have z : (6 : Int).toNat = 6 ∧ (2 : Int).toNat = 2 := ⟨rfl, rfl⟩
  have r1 : ∀ W, (Op.stringOp .add (txI t 6) (txI f 6)).run Try.prog W = .ok (.string (txI t 6 ++ txI f 6)) W := fun W => run_string_add_sum W _ _ (by rw [txI_size, txI_size]; omega)
  have r2 : ∀ W, (Op.stringOp .add (txI t 6 ++ txI f 6) (txI k 2)).run Try.prog W = .ok (.string (txI t 6 ++ txI f 6 ++ txI k 2)) W := fun W => run_string_add_sum W _ _ (by rw [ByteArray.size_append, txI_size, txI_size, txI_size]; omega)
  have r3 : ∀ W, (Op.stringOp .add (txI t 6 ++ txI f 6 ++ txI k 2) d).run Try.prog W = .ok (.string (txI t 6 ++ txI f 6 ++ txI k 2 ++ d)) W := fun W => run_string_add_sum W _ _ (by rw [ByteArray.size_append, ByteArray.size_append, txI_size, txI_size, txI_size]; omega)
  go_enter Try.func23, Try.ntmps23
  go_wp2
  have hx5 := And.intro (hbel (.cells #[.int .i64 t, .int .i64 f, .int .i64 k, .string d] 23)) hx
  clear hx hbel
  generalize w.alloc (.cells #[.int .i64 t, .int .i64 f, .int .i64 k, .string d] 23) = W0 at hx5 ⊢
  go_region_held3 (fun W => Below w.heap.size w W ∧ W.cell? ⟨w.heap.size, 0, none⟩ = some (.int .i64 t) ∧ W.cell? ⟨w.heap.size, 1, none⟩ = some (.int .i64 f) ∧ W.cell? ⟨w.heap.size, 2, none⟩ = some (.int .i64 k) ∧ W.cell? ⟨w.heap.size, 3, none⟩ = some (.string d)) (first | exact ⟨hx5.1.drew, hx5.2.1, hx5.2.2.1, hx5.2.2.2.1, hx5.2.2.2.2⟩ | (refine keep4 hb ?_; assumption)) ((go_at_call 33; refine (rtextI _ _ _ (by decide) (by decide)).mono ?_; rintro e w' ⟨rfl, hb⟩))
  all_goals
    go_wp2
    go_ret
    rename_i hq
    exact ⟨rfl, hq.1⟩

theorem codeE_t : codeE true = 0 := rfl
theorem codeE_f : codeE false = 30 := rfl

theorem renc_any (t f k : Int) (d : ByteArray) (w : World) (hd : d.size ≤ maxLen) :
    Calls Try.prog 8 #[.agg #[.int .i64 t, .int .i64 f, .int .i64 k, .string d]] w fun e w' => e = .returned (.tuple #[.string (encV t f k d), .int .i64 (codeE (mayB t f k d.size))]) ∧ Below w.heap.size w w' := by
  obtain ⟨c0, c1, c2, c3⟩ := box4 w (.int .i64 t) (.int .i64 f) (.int .i64 k) (.string d) 23
  have hbel := bel1 w
  unfold encV
  rcases Bool.eq_false_or_eq_true (mayB t f k d.size) with h | h
  · obtain ⟨ht, hf, _, ⟨k0, k1⟩, z⟩ := may_parts h
    rw [h, if_pos rfl]
    have e0 := codeE_t
    go_enter Try.func8, Try.ntmps8
    go_wp2_with fail
    refine (rcheck_any _ _ _ _ _ hd).mono ?_
    rw [h]
    rintro e w1 ⟨rfl, hb1⟩
    have c0' := later hb1 c0
    have c1' := later hb1 c1
    have c2' := later hb1 c2
    have c3' := later hb1 c3
    go_wp2_with fail
    refine (rbytes_any _ _ _ _ _ z).mono ?_
    rintro e w2 ⟨rfl, hb2⟩
    go_wp2
    go_ret2
    exact ⟨rfl, bt (bt (hbel _) hb1) hb2⟩
  · rw [h, if_neg (by simp)]
    have e0 := codeE_f
    go_enter Try.func8, Try.ntmps8
    go_wp2_with fail
    refine (rcheck_any _ _ _ _ _ hd).mono ?_
    rw [h]
    rintro e w1 ⟨rfl, hb1⟩
    go_wp2
    go_ret2
    exact ⟨rfl, bt (hbel _) hb1⟩

def exS : ByteArray := ⟨#[255, 255, 255, 255, 255, 255, 0, 0, 0, 0, 0, 2, 8, 6]⟩
theorem ex_is : encV 281474976710655 2 2054 ⟨#[]⟩ = ⟨#[255, 255, 255, 255, 255, 255, 0, 0, 0, 0, 0, 2, 8, 6]⟩ := by decide +kernel
theorem ex_may : mayB 281474976710655 2 2054 (⟨#[]⟩ : ByteArray).size = true := by decide +kernel
theorem enc_ex (w : World) :
    Calls Try.prog 7 #[.agg #[.int .i64 281474976710655, .int .i64 2, .int .i64 2054, .string ⟨#[]⟩]] w fun e w' => e = .returned (.tuple #[.string ⟨#[255, 255, 255, 255, 255, 255, 0, 0, 0, 0, 0, 2, 8, 6]⟩, .int .i64 0]) ∧ Below w.heap.size w w' := by
  have := enc_any 281474976710655 2 2054 ⟨#[]⟩ w (by decide)
  rw [ex_is, ex_may] at this
  exact this

theorem works_any (w : World) :
    Calls Try.prog 15 #[] w fun e w' => e = .returned (.bool true) ∧ Below w.heap.size w w' := by
  go_enter Try.func15, Try.ntmps15
  go_wp2_with fail
  refine (enc_ex _).mono ?_
  rintro e w1 ⟨rfl, hb1⟩
  go_wp2
  go_ret
  exact ⟨rfl, hb1⟩
end Go.Proofs.Ytbppijgceacepaa
