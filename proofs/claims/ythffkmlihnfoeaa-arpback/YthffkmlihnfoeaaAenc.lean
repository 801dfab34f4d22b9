/- The contracts of Encode of package arp and of the document's: the bytes of a packet that may be; nothing that was there turns. -/
import Derived.Test.YthffkmlihnfoeaaAcalls
import Derived.Deep.RegionHeld3
namespace Go.Proofs.Ythffkmlihnfoeaa
open Go.RowKit

def hdS : ByteArray := ⟨#[0, 1, 8, 0, 6, 4]⟩
def encA (o fm fi tm ti : Int) : ByteArray := ⟨#[0, 1, 8, 0, 6, 4]⟩ ++ txt o 2 ++ txt fm 6 ++ txt fi 4 ++ txt tm 6 ++ txt ti 4
theorem put_k (n k : Int) (w : World) (hk : 1 ≤ k ∧ k ≤ 6) (h : 0 ≤ n ∧ n < 2 ^ (8 * k.toNat)) :
    Calls Try.prog 25 #[.int .i64 n, .int .i64 k] w fun e w' => e = .returned (.tuple #[.string (txt n k.toNat), .int .i64 0]) ∧ Below w.heap.size w w' := by
  have hp : putB n k = true := putB_t ⟨hk.1, hk.2, h.1, h.2⟩
  have := pput_any n k w
  unfold putV at this
  rw [hp] at this
  exact this
theorem put_2 {n : Int} (h : 0 ≤ n ∧ n ≤ 65535) (w : World) : Calls Try.prog 25 #[.int .i64 n, .int .i64 2] w fun e w' => e = .returned (.tuple #[.string (txt n 2), .int .i64 0]) ∧ Below w.heap.size w w' := put_k n 2 w (by decide) ⟨h.1, by have := h.2; simp; omega⟩
theorem put_4 {n : Int} (h : 0 ≤ n ∧ n ≤ 4294967295) (w : World) : Calls Try.prog 25 #[.int .i64 n, .int .i64 4] w fun e w' => e = .returned (.tuple #[.string (txt n 4), .int .i64 0]) ∧ Below w.heap.size w w' := put_k n 4 w (by decide) ⟨h.1, by have := h.2; simp; omega⟩
theorem put_6 {n : Int} (h : 0 ≤ n ∧ n ≤ 281474976710655) (w : World) : Calls Try.prog 25 #[.int .i64 n, .int .i64 6] w fun e w' => e = .returned (.tuple #[.string (txt n 6), .int .i64 0]) ∧ Below w.heap.size w w' := put_k n 6 w (by decide) ⟨h.1, by have := h.2; simp; omega⟩
theorem encA_size (o fm fi tm ti : Int) : (encA o fm fi tm ti).size = 28 := by
  unfold encA
  simp only [ByteArray.size_append, txt_size]
  rfl

set_option maxHeartbeats 1000000 in
theorem enc_y {o fm fi tm ti : Int} (h : mayA o fm fi tm ti = true) (w : World) :
    Calls Try.prog 9 #[.agg #[.int .i64 o, .int .i64 fm, .int .i64 fi, .int .i64 tm, .int .i64 ti]] w fun e w' => e = .returned (.tuple #[.string (encA o fm fi tm ti), .int .i64 0]) ∧ Below w.heap.size w w' := by
  have hA := At.box w #[.int .i64 o, .int .i64 fm, .int .i64 fi, .int .i64 tm, .int .i64 ti] 23
  have hl := bel1 w (.cells #[.int .i64 o, .int .i64 fm, .int .i64 fi, .int .i64 tm, .int .i64 ti] 23)
  obtain ⟨ho, hfm, -, hfi, htm, hti⟩ := mayA_parts h
  have z1 := txt_size o 2
  have z2 := txt_size fm 6
  have z3 := txt_size fi 4
  have z4 := txt_size tm 6
  have z5 := txt_size ti 4
  go_enter Try.func9, Try.ntmps9
  go_wp2_with fail
  refine (amay_t h _).mono ?_
  rintro e w1 ⟨rfl, hb⟩
  have hl := bt hl hb
  have hA := hA.later hb
  obtain ⟨⟨c0, c1, c2, c3, c4⟩, -, -⟩ := hA.five
  clear hb
  go_wp2_with fail
  refine (put_2 ⟨by omega, by omega⟩ _).mono ?_
  rintro e w2 ⟨rfl, hb⟩
  have hl := bt hl hb
  have hA := hA.later hb
  clear c0 c1 c2 c3 c4 hb
  obtain ⟨⟨c0, c1, c2, c3, c4⟩, -, -⟩ := hA.five
  go_wp2_with fail
  refine (put_6 hfm _).mono ?_
  rintro e w3 ⟨rfl, hb⟩
  have hl := bt hl hb
  have hA := hA.later hb
  clear c0 c1 c2 c3 c4 hb
  obtain ⟨⟨c0, c1, c2, c3, c4⟩, -, -⟩ := hA.five
  go_wp2_with fail
  refine (put_4 hfi _).mono ?_
  rintro e w4 ⟨rfl, hb⟩
  have hl := bt hl hb
  have hA := hA.later hb
  clear c0 c1 c2 c3 c4 hb
  obtain ⟨⟨c0, c1, c2, c3, c4⟩, -, -⟩ := hA.five
  go_wp2_with fail
  refine (put_6 htm _).mono ?_
  rintro e w5 ⟨rfl, hb⟩
  have hl := bt hl hb
  have hA := hA.later hb
  clear c0 c1 c2 c3 c4 hb
  obtain ⟨⟨c0, c1, c2, c3, c4⟩, -, -⟩ := hA.five
  go_wp2_with fail
  refine (put_4 hti _).mono ?_
  rintro e w6 ⟨rfl, hb⟩
  have hl := bt hl hb
  clear c0 c1 c2 c3 c4 hb hA
  go_wp2
  go_ret2
  exact ⟨rfl, hl⟩

theorem enc_n {o fm fi tm ti : Int} (h : mayA o fm fi tm ti = false) (w : World) :
    Calls Try.prog 9 #[.agg #[.int .i64 o, .int .i64 fm, .int .i64 fi, .int .i64 tm, .int .i64 ti]] w fun e w' => e = .returned (.tuple #[.string ⟨#[]⟩, .int .i64 40]) ∧ Below w.heap.size w w' := by
  have hl := bel1 w (.cells #[.int .i64 o, .int .i64 fm, .int .i64 fi, .int .i64 tm, .int .i64 ti] 23)
  go_enter Try.func9, Try.ntmps9
  go_wp2_with fail
  refine (amay_f h _).mono ?_
  rintro e w1 ⟨rfl, hb⟩
  have hl := bt hl hb
  go_wp2
  go_ret2
  exact ⟨rfl, hl⟩

def txI (n k : Int) : ByteArray := txt n k.toNat
theorem txI_size (n k : Int) : (txI n k).size = k.toNat := txt_size _ _
theorem rtextI (n k : Int) (w : World) (k0 : 1 ≤ k) (k1 : k ≤ 6) :
    Calls Try.prog 40 #[.int .i64 n, .int .i64 k] w fun e w' => e = .returned (.string (txI n k)) ∧ Below w.heap.size w w' := by
  obtain ⟨K, rfl⟩ := Int.eq_ofNat_of_zero_le (show 0 ≤ k by omega)
  exact rtext_any n K w (by omega) (by omega)
theorem rhead_any (w : World) : Calls Try.prog 33 #[] w fun e w' => e = .returned (.string hdS) ∧ Below w.heap.size w w' := by
  go_enter Try.func33, Try.ntmps33
  go_wp2
  go_ret
  exact ⟨rfl, Below.refl _ _⟩

set_option maxHeartbeats 4000000 in
theorem rbytes_any (o fm fi tm ti : Int) (w : World) :
    Calls Try.prog 26 #[.agg #[.int .i64 o, .int .i64 fm, .int .i64 fi, .int .i64 tm, .int .i64 ti]] w fun e w' => e = .returned (.string (encA o fm fi tm ti)) ∧ Below w.heap.size w w' := by
  have hx := box5 w (.int .i64 o) (.int .i64 fm) (.int .i64 fi) (.int .i64 tm) (.int .i64 ti) 23
  have hbel := bel1 w
  show Calls Try.prog 26 #[.agg #[.int .i64 o, .int .i64 fm, .int .i64 fi, .int .i64 tm, .int .i64 ti]] w fun e w' => e = .returned (.string (hdS ++ txI o 2 ++ txI fm 6 ++ txI fi 4 ++ txI tm 6 ++ txI ti 4)) ∧ Below w.heap.size w w'
  have zh : hdS.size = 6 := rfl
  have z : (6 : Int).toNat = 6 ∧ (2 : Int).toNat = 2 ∧ (4 : Int).toNat = 4 := ⟨rfl, rfl, rfl⟩
  have r1 : ∀ W, (Op.stringOp .add hdS (txI o 2)).run Try.prog W = .ok (.string (hdS ++ txI o 2)) W := fun W => run_string_add_sum W _ _ (by rw [zh, txI_size]; omega)
  have r2 : ∀ W, (Op.stringOp .add (hdS ++ txI o 2) (txI fm 6)).run Try.prog W = .ok (.string (hdS ++ txI o 2 ++ txI fm 6)) W := fun W => run_string_add_sum W _ _ (by simp only [ByteArray.size_append, zh, txI_size]; omega)
  have r3 : ∀ W, (Op.stringOp .add (hdS ++ txI o 2 ++ txI fm 6) (txI fi 4)).run Try.prog W = .ok (.string (hdS ++ txI o 2 ++ txI fm 6 ++ txI fi 4)) W := fun W => run_string_add_sum W _ _ (by simp only [ByteArray.size_append, zh, txI_size]; omega)
  have r4 : ∀ W, (Op.stringOp .add (hdS ++ txI o 2 ++ txI fm 6 ++ txI fi 4) (txI tm 6)).run Try.prog W = .ok (.string (hdS ++ txI o 2 ++ txI fm 6 ++ txI fi 4 ++ txI tm 6)) W := fun W => run_string_add_sum W _ _ (by simp only [ByteArray.size_append, zh, txI_size]; omega)
  have r5 : ∀ W, (Op.stringOp .add (hdS ++ txI o 2 ++ txI fm 6 ++ txI fi 4 ++ txI tm 6) (txI ti 4)).run Try.prog W = .ok (.string (hdS ++ txI o 2 ++ txI fm 6 ++ txI fi 4 ++ txI tm 6 ++ txI ti 4)) W := fun W => run_string_add_sum W _ _ (by simp only [ByteArray.size_append, zh, txI_size]; omega)
  go_enter Try.func26, Try.ntmps26
  go_wp2
  have hx5 := And.intro (hbel (.cells #[.int .i64 o, .int .i64 fm, .int .i64 fi, .int .i64 tm, .int .i64 ti] 23)) hx
  clear hx hbel
  generalize w.alloc (.cells #[.int .i64 o, .int .i64 fm, .int .i64 fi, .int .i64 tm, .int .i64 ti] 23) = W0 at hx5 ⊢
  go_region_held3 (fun W => Below w.heap.size w W ∧ W.cell? ⟨w.heap.size, 0, none⟩ = some (.int .i64 o) ∧ W.cell? ⟨w.heap.size, 1, none⟩ = some (.int .i64 fm) ∧ W.cell? ⟨w.heap.size, 2, none⟩ = some (.int .i64 fi) ∧ W.cell? ⟨w.heap.size, 3, none⟩ = some (.int .i64 tm) ∧ W.cell? ⟨w.heap.size, 4, none⟩ = some (.int .i64 ti)) (first | exact ⟨hx5.1.drew, hx5.2.1, hx5.2.2.1, hx5.2.2.2.1, hx5.2.2.2.2.1, hx5.2.2.2.2.2⟩ | (refine keep5 hb ?_; assumption)) (first | (go_at_call 40; refine (rtextI _ _ _ (by decide) (by decide)).mono ?_; rintro e w' ⟨rfl, hb⟩) | (go_at_call 33; refine (rhead_any _).mono ?_; rintro e w' ⟨rfl, hb⟩))
  all_goals
    go_wp2
    go_ret
    rename_i hq
    exact ⟨rfl, hq.1⟩

theorem renc_y {o fm fi tm ti : Int} (h : mayA o fm fi tm ti = true) (w : World) :
    Calls Try.prog 10 #[.agg #[.int .i64 o, .int .i64 fm, .int .i64 fi, .int .i64 tm, .int .i64 ti]] w fun e w' => e = .returned (.tuple #[.string (encA o fm fi tm ti), .int .i64 0]) ∧ Below w.heap.size w w' := by
  have hA := At.box w #[.int .i64 o, .int .i64 fm, .int .i64 fi, .int .i64 tm, .int .i64 ti] 23
  have hl := bel1 w (.cells #[.int .i64 o, .int .i64 fm, .int .i64 fi, .int .i64 tm, .int .i64 ti] 23)
  go_enter Try.func10, Try.ntmps10
  go_wp2_with fail
  refine (rchk_t h _).mono ?_
  rintro e w1 ⟨rfl, hb⟩
  have hl := bt hl hb
  have hA := hA.later hb
  obtain ⟨⟨c0, c1, c2, c3, c4⟩, -, -⟩ := hA.five
  clear hb
  go_wp2_with fail
  refine (rbytes_any _ _ _ _ _ _).mono ?_
  rintro e w2 ⟨rfl, hb⟩
  have hl := bt hl hb
  go_wp2
  go_ret2
  exact ⟨rfl, hl⟩
theorem renc_n {o fm fi tm ti : Int} (h : mayA o fm fi tm ti = false) (w : World) :
    Calls Try.prog 10 #[.agg #[.int .i64 o, .int .i64 fm, .int .i64 fi, .int .i64 tm, .int .i64 ti]] w fun e w' => e = .returned (.tuple #[.string ⟨#[]⟩, .int .i64 40]) ∧ Below w.heap.size w w' := by
  have hl := bel1 w (.cells #[.int .i64 o, .int .i64 fm, .int .i64 fi, .int .i64 tm, .int .i64 ti] 23)
  go_enter Try.func10, Try.ntmps10
  go_wp2_with fail
  refine (rchk_f h _).mono ?_
  rintro e w1 ⟨rfl, hb⟩
  have hl := bt hl hb
  go_wp2
  go_ret2
  exact ⟨rfl, hl⟩

end Go.Proofs.Ythffkmlihnfoeaa