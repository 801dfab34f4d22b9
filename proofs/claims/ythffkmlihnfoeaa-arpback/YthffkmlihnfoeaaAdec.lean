/- The contract of Decode of package arp: the packet that the bytes are; nothing that was there turns. -/
import Derived.Test.YthffkmlihnfoeaaAenc
import Derived.Deep.RegionHeld3
namespace Go.Proofs.Ythffkmlihnfoeaa
open Go.RowKit

set_option linter.unusedVariables false
def aO (s : ByteArray) : Int := numS (s.extract 6 8)
def aFm (s : ByteArray) : Int := numS (s.extract 8 14)
def aFi (s : ByteArray) : Int := numS (s.extract 14 18)
def aTm (s : ByteArray) : Int := numS (s.extract 18 24)
def aTi (s : ByteArray) : Int := numS (s.extract 24 28)
def mayS (s : ByteArray) : Bool := mayA (aO s) (aFm s) (aFi s) (aTm s) (aTi s)
def preB (s : ByteArray) : Bool := (s.extract 0 6).toList == hdS.toList
def decA (s : ByteArray) : Bool := decide (28 ≤ s.size ∧ s.size ≤ 46) && preB s && mayS s
theorem decA_ways (s : ByteArray) : (decA s = false ∧ s.size < 28) ∨ (decA s = false ∧ 46 < s.size) ∨ ((28 ≤ s.size ∧ s.size ≤ 46) ∧ ((decA s = false ∧ preB s = false) ∨ preB s = true ∧ ((decA s = false ∧ mayS s = false) ∨ (decA s = true ∧ mayS s = true)))) := by
  unfold decA
  by_cases h1 : s.size < 28
  · exact .inl ⟨by rw [decide_eq_false (by omega)]; rfl, h1⟩
  · by_cases h2 : 46 < s.size
    · exact .inr (.inl ⟨by rw [decide_eq_false (by omega)]; rfl, h2⟩)
    · refine .inr (.inr ⟨⟨by omega, by omega⟩, ?_⟩)
      rw [decide_eq_true ⟨by omega, by omega⟩]
      cases preB s <;> cases mayS s <;> simp

theorem slpre_any (s p : ByteArray) (w : World) (hs : s.size ≤ maxLen) (h : p.size ≤ s.size) :
    Calls Try.prog 42 #[.string s, .string p] w fun e w' => e = .returned (.bool ((s.extract 0 p.size).toList == p.toList)) ∧ w' = w := by
  unfold maxLen at hs
  go_enter Try.func42, Try.ntmps42
  go_wp2
  go_ret
  exact ⟨rfl, rfl⟩
theorem spre_any (s p : ByteArray) (w : World) (hs : s.size ≤ maxLen) (h : p.size ≤ s.size) :
    Calls Try.prog 31 #[.string s, .string p] w fun e w' => e = .returned (.bool ((s.extract 0 p.size).toList == p.toList)) ∧ w' = w := by
  go_enter Try.func31, Try.ntmps31
  go_wp2_with fail
  refine (slpre_any _ _ _ hs h).mono ?_
  rintro e w1 ⟨rfl, rfl⟩
  go_wp2
  go_ret
  exact ⟨rfl, rfl⟩
theorem pre_any (s : ByteArray) (w : World) (hs : s.size ≤ maxLen) (h : 28 ≤ s.size) :
    Calls Try.prog 31 #[.string s, .string ⟨#[0, 1, 8, 0, 6, 4]⟩] w fun e w' => e = .returned (.bool (preB s)) ∧ w' = w := spre_any s ⟨#[0, 1, 8, 0, 6, 4]⟩ w hs (by show 6 ≤ s.size; omega)

theorem get_k (s : ByteArray) (off k : Int) (w : World) (hs : s.size ≤ maxLen) (h : 28 ≤ s.size) (hk : 1 ≤ k ∧ k ≤ 6) (ho : 0 ≤ off ∧ off + k ≤ 28) :
    Calls Try.prog 32 #[.string s, .int .i64 off, .int .i64 k] w fun e w' => e = .returned (.tuple #[.int .i64 (numS (s.extract off.toNat (off + k).toNat)), .int .i64 0]) ∧ Below w.heap.size w w' := by
  have hp : getB s.size off k = true := getB_t ⟨hk.1, hk.2, ho.1, by omega⟩
  have := get_any s off k w hs
  unfold getV at this
  rw [hp] at this
  exact this
theorem get_0 {s : ByteArray} (w : World) (hs : s.size ≤ maxLen) (h : 28 ≤ s.size) : Calls Try.prog 32 #[.string s, .int .i64 6, .int .i64 2] w fun e w' => e = .returned (.tuple #[.int .i64 (aO s), .int .i64 0]) ∧ Below w.heap.size w w' := get_k s 6 2 w hs h (by decide) (by decide)
theorem get_1 {s : ByteArray} (w : World) (hs : s.size ≤ maxLen) (h : 28 ≤ s.size) : Calls Try.prog 32 #[.string s, .int .i64 8, .int .i64 6] w fun e w' => e = .returned (.tuple #[.int .i64 (aFm s), .int .i64 0]) ∧ Below w.heap.size w w' := get_k s 8 6 w hs h (by decide) (by decide)
theorem get_2 {s : ByteArray} (w : World) (hs : s.size ≤ maxLen) (h : 28 ≤ s.size) : Calls Try.prog 32 #[.string s, .int .i64 14, .int .i64 4] w fun e w' => e = .returned (.tuple #[.int .i64 (aFi s), .int .i64 0]) ∧ Below w.heap.size w w' := get_k s 14 4 w hs h (by decide) (by decide)
theorem get_3 {s : ByteArray} (w : World) (hs : s.size ≤ maxLen) (h : 28 ≤ s.size) : Calls Try.prog 32 #[.string s, .int .i64 18, .int .i64 6] w fun e w' => e = .returned (.tuple #[.int .i64 (aTm s), .int .i64 0]) ∧ Below w.heap.size w w' := get_k s 18 6 w hs h (by decide) (by decide)
theorem get_4 {s : ByteArray} (w : World) (hs : s.size ≤ maxLen) (h : 28 ≤ s.size) : Calls Try.prog 32 #[.string s, .int .i64 24, .int .i64 4] w fun e w' => e = .returned (.tuple #[.int .i64 (aTi s), .int .i64 0]) ∧ Below w.heap.size w w' := get_k s 24 4 w hs h (by decide) (by decide)

set_option maxHeartbeats 1000000 in
theorem dec_n1 {s : ByteArray} (h : s.size < 28 ∨ 46 < s.size ∨ (28 ≤ s.size ∧ s.size ≤ 46) ∧ preB s = false) (w : World) (hs : s.size ≤ maxLen) :
    Calls Try.prog 16 #[.string s] w fun e w' => e = .returned (.tuple #[.agg #[.int .i64 0, .int .i64 0, .int .i64 0, .int .i64 0, .int .i64 0], .int .i64 40]) ∧ Below w.heap.size w w' := by
  have hm := hs
  unfold maxLen at hs
  have hl := bel1 w (.cells #[.int .i64 0, .int .i64 0, .int .i64 0, .int .i64 0, .int .i64 0] 23)
  rcases h with h | h | ⟨⟨h, h2⟩, q⟩
  all_goals
    go_enter Try.func16, Try.ntmps16
    go_wp2_with (first | (go_at_call 31; refine (pre_any _ _ hm h).mono ?_; rw [q]; rintro e w' ⟨rfl, rfl⟩))
    exact bodyPost_ret (v := .tuple #[.agg #[.int .i64 0, .int .i64 0, .int .i64 0, .int .i64 0, .int .i64 0], .int .i64 40]) (by simp [results, Try.results16, go_sem]) rfl ⟨rfl, hl⟩

set_option maxHeartbeats 1000000 in
theorem dec_n2 {s : ByteArray} (h : 28 ≤ s.size) (h2 : s.size ≤ 46) (q : preB s = true) (g : mayS s = false) (w : World) :
    Calls Try.prog 16 #[.string s] w fun e w' => e = .returned (.tuple #[.agg #[.int .i64 0, .int .i64 0, .int .i64 0, .int .i64 0, .int .i64 0], .int .i64 40]) ∧ Below w.heap.size w w' := by
  have hm : s.size ≤ maxLen := by unfold maxLen; omega
  have hl := bel1 w (.cells #[.int .i64 0, .int .i64 0, .int .i64 0, .int .i64 0, .int .i64 0] 23)
  have hR := At.box w #[.int .i64 0, .int .i64 0, .int .i64 0, .int .i64 0, .int .i64 0] 23
  go_enter Try.func16, Try.ntmps16
  go_wp2_with fail
  refine (pre_any _ _ hm h).mono ?_
  rw [q]
  rintro e w0 ⟨rfl, rfl⟩
  go_wp2_with fail
  refine (get_0 _ hm h).mono ?_
  rintro e w1 ⟨rfl, hb⟩
  have hl := bt hl hb
  have hR := hR.later hb
  clear hb
  go_wp2_with fail
  refine (get_1 _ hm h).mono ?_
  rintro e w2 ⟨rfl, hb⟩
  have hl := bt hl hb
  have hR := hR.later hb
  clear hb
  go_wp2_with fail
  refine (get_2 _ hm h).mono ?_
  rintro e w3 ⟨rfl, hb⟩
  have hl := bt hl hb
  have hR := hR.later hb
  clear hb
  go_wp2_with fail
  refine (get_3 _ hm h).mono ?_
  rintro e w4 ⟨rfl, hb⟩
  have hl := bt hl hb
  have hR := hR.later hb
  clear hb
  go_wp2_with fail
  refine (get_4 _ hm h).mono ?_
  rintro e w5 ⟨rfl, hb⟩
  have hl := bt hl hb
  have hR := hR.later hb
  clear hb
  go_wp2_with fail
  refine (ckd_f g _).mono ?_
  rintro e w6 ⟨rfl, hb⟩
  have hl := bt hl hb
  obtain ⟨⟨r0, r1, r2, r3, r4⟩, ⟨f0, f1, f2, f3, f4⟩, hlt⟩ := (hR.later hb).five
  clear hR hb
  go_wp2
  exact bodyPost_ret (v := .tuple #[.agg #[.int .i64 0, .int .i64 0, .int .i64 0, .int .i64 0, .int .i64 0], .int .i64 40]) (by simp [results, Try.results16, go_sem, r0, r1, r2, r3, r4]) rfl ⟨rfl, below5 hl (Nat.le_refl _) _ _ _ _ _⟩

set_option maxHeartbeats 1000000 in
theorem dec_y0 {s : ByteArray} (h : 28 ≤ s.size) (h2 : s.size ≤ 46) (q : preB s = true) (g : mayS s = true) (w : World) :
    Calls Try.prog 16 #[.string s] w fun e w' => e = .returned (.tuple #[.agg #[.int .i64 (aO s), .int .i64 (aFm s), .int .i64 (aFi s), .int .i64 (aTm s), .int .i64 (aTi s)], .int .i64 0]) ∧ Below w.heap.size w w' := by
  have hm : s.size ≤ maxLen := by unfold maxLen; omega
  have hl := bel1 w (.cells #[.int .i64 0, .int .i64 0, .int .i64 0, .int .i64 0, .int .i64 0] 23)
  have hR := At.box w #[.int .i64 0, .int .i64 0, .int .i64 0, .int .i64 0, .int .i64 0] 23
  go_enter Try.func16, Try.ntmps16
  go_wp2_with fail
  refine (pre_any _ _ hm h).mono ?_
  rw [q]
  rintro e w0 ⟨rfl, rfl⟩
  go_wp2_with fail
  refine (get_0 _ hm h).mono ?_
  rintro e w1 ⟨rfl, hb⟩
  have hl := bt hl hb
  have hR := hR.later hb
  clear hb
  go_wp2_with fail
  refine (get_1 _ hm h).mono ?_
  rintro e w2 ⟨rfl, hb⟩
  have hl := bt hl hb
  have hR := hR.later hb
  clear hb
  go_wp2_with fail
  refine (get_2 _ hm h).mono ?_
  rintro e w3 ⟨rfl, hb⟩
  have hl := bt hl hb
  have hR := hR.later hb
  clear hb
  go_wp2_with fail
  refine (get_3 _ hm h).mono ?_
  rintro e w4 ⟨rfl, hb⟩
  have hl := bt hl hb
  have hR := hR.later hb
  clear hb
  go_wp2_with fail
  refine (get_4 _ hm h).mono ?_
  rintro e w5 ⟨rfl, hb⟩
  have hl := bt hl hb
  have hR := hR.later hb
  clear hb
  go_wp2_with fail
  refine (ckd_t g _).mono ?_
  rintro e w6 ⟨rfl, hb⟩
  have hl := bt hl hb
  obtain ⟨⟨r0, r1, r2, r3, r4⟩, ⟨f0, f1, f2, f3, f4⟩, hlt⟩ := (hR.later hb).five
  clear hR hb
  go_wp2
  exact bodyPost_ret (v := .tuple #[.agg #[.int .i64 (aO s), .int .i64 (aFm s), .int .i64 (aFi s), .int .i64 (aTm s), .int .i64 (aTi s)], .int .i64 0]) (by simp [results, Try.results16, go_sem, r0, r1, r2, r3, r4]) rfl ⟨rfl, below5 hl (Nat.le_refl _) _ _ _ _ _⟩

theorem dec_n {s : ByteArray} (h : decA s = false) (w : World) (hs : s.size ≤ maxLen) :
    Calls Try.prog 16 #[.string s] w fun e w' => e = .returned (.tuple #[.agg #[.int .i64 0, .int .i64 0, .int .i64 0, .int .i64 0, .int .i64 0], .int .i64 40]) ∧ Below w.heap.size w w' := by
  rcases decA_ways s with ⟨-, a⟩ | ⟨-, a⟩ | ⟨a, ⟨-, b⟩ | ⟨b, ⟨-, c⟩ | ⟨c, -⟩⟩⟩
  · exact dec_n1 (.inl a) w hs
  · exact dec_n1 (.inr (.inl a)) w hs
  · exact dec_n1 (.inr (.inr ⟨a, b⟩)) w hs
  · exact dec_n2 a.1 a.2 b c w
  · rw [h] at c; cases c
theorem decA_parts {s : ByteArray} (h : decA s = true) : 28 ≤ s.size ∧ s.size ≤ 46 ∧ preB s = true ∧ mayS s = true := by
  rcases decA_ways s with ⟨a, -⟩ | ⟨a, -⟩ | ⟨a, ⟨c, -⟩ | ⟨b, ⟨c, -⟩ | ⟨-, c⟩⟩⟩
  · rw [h] at a; cases a
  · rw [h] at a; cases a
  · rw [h] at c; cases c
  · rw [h] at c; cases c
  · exact ⟨a.1, a.2, b, c⟩
theorem dec_y {s : ByteArray} (h : decA s = true) (w : World) :
    Calls Try.prog 16 #[.string s] w fun e w' => e = .returned (.tuple #[.agg #[.int .i64 (aO s), .int .i64 (aFm s), .int .i64 (aFi s), .int .i64 (aTm s), .int .i64 (aTi s)], .int .i64 0]) ∧ Below w.heap.size w w' := by
  obtain ⟨a, b, c, d⟩ := decA_parts h
  exact dec_y0 a b c d w
end Go.Proofs.Ythffkmlihnfoeaa
