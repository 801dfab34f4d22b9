/- the texts EFrames, EChecks, EEncodes, EDecodes, EBacks, Arps, Amay, Achk, Amade, Aenc, Adec, in part, merged by program -/
import Derived.Test.YtkpdmgoldngdaabGreatDoorRows
import Derived.WalkKit
import Derived.WalkSpells
import Derived.Deep.RegionHeld3
import Derived.Deep.QuietTactic
import Derived.BigQuiet
import Derived.WalkSmall
import Derived.Test.YtkpdmgoldngdaabGreatDoorMA01
namespace Go.Proofs.YtkpdmgoldngdaabGreatDoor.Eth
open Go.RowKit
set_option maxRecDepth 100000

def macB (n : Int) : Bool := decide (0 ≤ n ∧ n ≤ 281474976710655)
def grpB (n : Int) : Bool := decide (n / 1099511627776 % 2 = 1)
def mayB (t f k : Int) (z : Nat) : Bool := decide ((0 ≤ t ∧ t ≤ 281474976710655) ∧ (0 ≤ f ∧ f ≤ 281474976710655) ∧ f / 1099511627776 % 2 = 0 ∧ (1536 ≤ k ∧ k ≤ 65535) ∧ z ≤ 1500)
def codeE (b : Bool) : Int := if b = true then 0 else 30
def encS (t f k : Int) (d : ByteArray) : ByteArray := txt t 6 ++ txt f 6 ++ txt k 2 ++ d
def encV (t f k : Int) (d : ByteArray) : ByteArray := if mayB t f k d.size = true then encS t f k d else noS

theorem macB_t {n : Int} (h : 0 ≤ n ∧ n ≤ 281474976710655) : macB n = true := decide_eq_true h
theorem macB_f {n : Int} (h : ¬ (0 ≤ n ∧ n ≤ 281474976710655)) : macB n = false := decide_eq_false h
theorem grpB_t {n : Int} (h : n / 1099511627776 % 2 = 1) : grpB n = true := decide_eq_true h
theorem grpB_f {n : Int} (h : n / 1099511627776 % 2 = 0) : grpB n = false := decide_eq_false (by omega)
theorem mayB_t {t f k : Int} {z : Nat} (h : (0 ≤ t ∧ t ≤ 281474976710655) ∧ (0 ≤ f ∧ f ≤ 281474976710655) ∧ f / 1099511627776 % 2 = 0 ∧ (1536 ≤ k ∧ k ≤ 65535) ∧ z ≤ 1500) : mayB t f k z = true := decide_eq_true h
theorem mayB_f {t f k : Int} {z : Nat} (h : ¬ ((0 ≤ t ∧ t ≤ 281474976710655) ∧ (0 ≤ f ∧ f ≤ 281474976710655) ∧ f / 1099511627776 % 2 = 0 ∧ (1536 ≤ k ∧ k ≤ 65535) ∧ z ≤ 1500)) : mayB t f k z = false := decide_eq_false h

theorem and_group (n : Int) (h0 : 0 ≤ n) (h1 : n ≤ 281474976710655) : bits .and .i64 n 1099511627776 = n / 1099511627776 % 2 * 1099511627776 := by
  obtain ⟨N, rfl⟩ := Int.eq_ofNat_of_zero_le h0
  show IntKind.i64.wrap ((BitVec.ofInt 64 (N : Int) &&& BitVec.ofInt 64 1099511627776).toNat : Nat) = _
  have e : (BitVec.ofInt 64 1099511627776).toNat = 2 ^ 40 := by decide
  rw [BitVec.toNat_and, ofInt_u64 _ (by omega), e]
  have k : N &&& 2 ^ 40 = N / 2 ^ 40 % 2 * 2 ^ 40 := by
    apply Nat.eq_of_testBit_eq
    intro i
    rw [Nat.testBit_and, Nat.testBit_two_pow, Nat.testBit_mul_two_pow]
    by_cases h : i = 40
    · subst h
      simp [Nat.testBit_eq_decide_div_mod_eq]
    · rw [show decide (40 = i) = false from decide_eq_false (Ne.symm h), Bool.and_false]
      by_cases g : 40 ≤ i
      · obtain ⟨j, hj⟩ : ∃ j, i - 40 = j + 1 := ⟨i - 41, by omega⟩
        rw [hj, Nat.testBit_succ, show N / 2 ^ 40 % 2 / 2 = 0 by omega, Nat.zero_testBit, Bool.and_false]
      · simp [g]
  rw [k, IntKind.wrap_i64]
  omega

theorem isaddr_any (n : Int) (w : World) :
    Calls Tryz.prog 48 #[.int .i64 n] w fun e w' => e = .returned (.bool (macB n)) ∧ w' = w := by
  unfold macB
  by_cases h : 0 ≤ n
  · go_enter Tryz.func48, Tryz.ntmps48
    go_wp2
    go_ret
    exact ⟨by simp [h], rfl⟩
  · go_enter Tryz.func48, Tryz.ntmps48
    go_wp2
    go_ret
    exact ⟨by simp; omega, rfl⟩

theorem ingroup_any (n : Int) (w : World) (h0 : 0 ≤ n) (h1 : n ≤ 281474976710655) :
    Calls Tryz.prog 49 #[.int .i64 n] w fun e w' => e = .returned (.bool (grpB n)) ∧ w' = w := by
  unfold grpB
  have ha := and_group n h0 h1
  go_enter Tryz.func49, Tryz.ntmps49
  go_wp2
  go_ret
  have h2 : n / 1099511627776 % 2 = 0 ∨ n / 1099511627776 % 2 = 1 := by omega
  exact ⟨by rcases h2 with h | h <;> rw [h] <;> rfl, rfl⟩

end Go.Proofs.YtkpdmgoldngdaabGreatDoor.Eth

namespace Go.Proofs.YtkpdmgoldngdaabGreatDoor.Eth
open Go.RowKit
set_option maxRecDepth 100000

theorem may_ways (t f k : Int) (z : Nat) :
    (mayB t f k z = false ∧ macB t = false) ∨ (mayB t f k z = false ∧ macB t = true ∧ macB f = false) ∨ (mayB t f k z = false ∧ macB t = true ∧ macB f = true ∧ (0 ≤ f ∧ f ≤ 281474976710655) ∧ grpB f = true) ∨
    (mayB t f k z = false ∧ macB t = true ∧ macB f = true ∧ (0 ≤ f ∧ f ≤ 281474976710655) ∧ grpB f = false ∧ k < 1536) ∨ (mayB t f k z = false ∧ macB t = true ∧ macB f = true ∧ (0 ≤ f ∧ f ≤ 281474976710655) ∧ grpB f = false ∧ 1536 ≤ k ∧ 65535 < k) ∨
    (mayB t f k z = false ∧ macB t = true ∧ macB f = true ∧ (0 ≤ f ∧ f ≤ 281474976710655) ∧ grpB f = false ∧ 1536 ≤ k ∧ k ≤ 65535 ∧ 1500 < z) ∨
    (mayB t f k z = true ∧ macB t = true ∧ macB f = true ∧ (0 ≤ f ∧ f ≤ 281474976710655) ∧ grpB f = false ∧ 1536 ≤ k ∧ k ≤ 65535 ∧ z ≤ 1500) := by
  by_cases ht : 0 ≤ t ∧ t ≤ 281474976710655
  · by_cases hf : 0 ≤ f ∧ f ≤ 281474976710655
    · by_cases hg : f / 1099511627776 % 2 = 0
      · by_cases h1 : 1536 ≤ k
        · by_cases h2 : k ≤ 65535
          · by_cases h3 : z ≤ 1500
            · exact Or.inr (Or.inr (Or.inr (Or.inr (Or.inr (Or.inr ⟨mayB_t ⟨ht, hf, hg, ⟨h1, h2⟩, h3⟩, macB_t ht, macB_t hf, hf, grpB_f hg, h1, h2, h3⟩)))))
            · exact Or.inr (Or.inr (Or.inr (Or.inr (Or.inr (Or.inl ⟨mayB_f (fun h => h3 h.2.2.2.2), macB_t ht, macB_t hf, hf, grpB_f hg, h1, h2, Nat.lt_of_not_le h3⟩)))))
          · exact Or.inr (Or.inr (Or.inr (Or.inr (Or.inl ⟨mayB_f (fun h => h2 h.2.2.2.1.2), macB_t ht, macB_t hf, hf, grpB_f hg, h1, Int.lt_of_not_ge h2⟩))))
        · exact Or.inr (Or.inr (Or.inr (Or.inl ⟨mayB_f (fun h => h1 h.2.2.2.1.1), macB_t ht, macB_t hf, hf, grpB_f hg, Int.lt_of_not_ge h1⟩)))
      · exact Or.inr (Or.inr (Or.inl ⟨mayB_f (fun h => hg h.2.2.1), macB_t ht, macB_t hf, hf, grpB_t (by omega)⟩))
    · exact Or.inr (Or.inl ⟨mayB_f (fun h => hf h.2.1), macB_t ht, macB_f hf⟩)
  · exact Or.inl ⟨mayB_f (fun h => ht h.1), macB_f ht⟩

theorem bel1 (w : World) (o : Obj) : Below w.heap.size w (w.alloc o) := (Below.refl _ _).alloc (Nat.le_refl _) o

theorem may_any (t f k : Int) (d : ByteArray) (w : World) (hd : d.size ≤ maxLen) :
    Calls Tryz.prog 21 #[.agg #[.int .i64 t, .int .i64 f, .int .i64 k, .string d]] w fun e w' => e = .returned (.bool (mayB t f k d.size)) ∧ Below w.heap.size w w' := by
  unfold maxLen at hd
  have hbel := bel1 w
  rcases may_ways t f k d.size with ⟨h, m1⟩ | ⟨h, m1, m2⟩ | ⟨h, m1, m2, ⟨f0, f1⟩, g⟩ | ⟨h, m1, m2, ⟨f0, f1⟩, g, k1⟩ | ⟨h, m1, m2, ⟨f0, f1⟩, g, k1, k2⟩ | ⟨h, m1, m2, ⟨f0, f1⟩, g, k1, k2, z⟩ | ⟨h, m1, m2, ⟨f0, f1⟩, g, k1, k2, z⟩
  all_goals
    rw [h]; clear h
    go_enter Tryz.func21, Tryz.ntmps21
    go_wp2_with (first | (go_at_call 48; refine (isaddr_any _ _).mono ?_; rintro e w' ⟨rfl, rfl⟩) | (go_at_call 49; refine (ingroup_any _ _ (by assumption) (by assumption)).mono ?_; rintro e w' ⟨rfl, rfl⟩))
    go_ret
    first | exact ⟨rfl, hbel _⟩ | exact ⟨by simp; omega, hbel _⟩

theorem pgroup_any (n : Int) (w : World) :
    Calls Tryz.prog 102 #[.int .i64 n] w fun e w' => e = .returned (.tuple #[.bool (macB n && grpB n), .int .i64 (codeB (macB n))]) ∧ w' = w := by
  by_cases h : 0 ≤ n ∧ n ≤ 281474976710655
  · have m := macB_t h
    obtain ⟨h0, h1⟩ := h
    rw [m]
    go_enter Tryz.func102, Tryz.ntmps102
    go_wp2_with (first | (go_at_call 48; refine (isaddr_any _ _).mono ?_; rintro e w' ⟨rfl, rfl⟩) | (go_at_call 49; refine (ingroup_any _ _ (by assumption) (by assumption)).mono ?_; rintro e w' ⟨rfl, rfl⟩))
    go_ret2
    exact ⟨rfl, rfl⟩
  · have m := macB_f h
    rw [m]
    go_enter Tryz.func102, Tryz.ntmps102
    go_wp2_with (first | (go_at_call 48; refine (isaddr_any _ _).mono ?_; rintro e w' ⟨rfl, rfl⟩))
    go_ret2
    exact ⟨rfl, rfl⟩

end Go.Proofs.YtkpdmgoldngdaabGreatDoor.Eth

namespace Go.Proofs.YtkpdmgoldngdaabGreatDoor.Eth
open Go.RowKit
set_option maxRecDepth 100000

theorem later {w x : World} {a : Addr} {v : Value} (hb : Below w.heap.size w x) (h : w.cell? a = some v) : x.cell? a = some v := (hb.cell (World.block_lt_of_cell? _ _ h)).trans h
theorem box4 (w : World) (v0 v1 v2 v3 : Value) (t : TypeId) : (w.alloc (.cells #[v0, v1, v2, v3] t)).cell? ⟨w.heap.size, 0, none⟩ = some v0 ∧ (w.alloc (.cells #[v0, v1, v2, v3] t)).cell? ⟨w.heap.size, 1, none⟩ = some v1 ∧
    (w.alloc (.cells #[v0, v1, v2, v3] t)).cell? ⟨w.heap.size, 2, none⟩ = some v2 ∧ (w.alloc (.cells #[v0, v1, v2, v3] t)).cell? ⟨w.heap.size, 3, none⟩ = some v3 := by
  refine ⟨?_, ?_, ?_, ?_⟩ <;> simp [World.cell?_alloc_new]

theorem may_parts {t f k : Int} {z : Nat} (h : mayB t f k z = true) : (0 ≤ t ∧ t ≤ 281474976710655) ∧ (0 ≤ f ∧ f ≤ 281474976710655) ∧ f / 1099511627776 % 2 = 0 ∧ (1536 ≤ k ∧ k ≤ 65535) ∧ z ≤ 1500 := of_decide_eq_true h

theorem put_six (n : Int) (w : World) (h : 0 ≤ n ∧ n ≤ 281474976710655) :
    Calls Tryz.prog 22 #[.int .i64 n, .int .i64 6] w fun e w' => e = .returned (.tuple #[.string (txt n 6), .int .i64 0]) ∧ Below w.heap.size w w' := by
  have hp : putB n 6 = true := putB_t ⟨by decide, by decide, h.1, by have := h.2; simp; omega⟩
  have := pput_any n 6 w
  unfold putV at this
  rw [hp] at this
  exact this
theorem put_two (n : Int) (w : World) (h : 0 ≤ n ∧ n ≤ 65535) :
    Calls Tryz.prog 22 #[.int .i64 n, .int .i64 2] w fun e w' => e = .returned (.tuple #[.string (txt n 2), .int .i64 0]) ∧ Below w.heap.size w w' := by
  have hp : putB n 2 = true := putB_t ⟨by decide, by decide, h.1, by have := h.2; simp; omega⟩
  have := pput_any n 2 w
  unfold putV at this
  rw [hp] at this
  exact this

set_option maxHeartbeats 1000000 in
theorem enc_any (t f k : Int) (d : ByteArray) (w : World) (hd : d.size ≤ maxLen) :
    Calls Tryz.prog 8 #[.agg #[.int .i64 t, .int .i64 f, .int .i64 k, .string d]] w fun e w' => e = .returned (.tuple #[.string (encV t f k d), .int .i64 (codeE (mayB t f k d.size))]) ∧ Below w.heap.size w w' := by
  obtain ⟨c0, c1, c2, c3⟩ := box4 w (.int .i64 t) (.int .i64 f) (.int .i64 k) (.string d) 24
  have hbel := bel1 w
  unfold encV
  rcases Bool.eq_false_or_eq_true (mayB t f k d.size) with h | h
  · obtain ⟨ht, hf, _, ⟨k0, k1⟩, z⟩ := may_parts h
    have H : Hid (mayB t f k d.size = true) := h
    rw [h, if_pos rfl]
    have z1 := txt_size t 6
    have z2 := txt_size f 6
    have z3 := txt_size k 2
    go_enter Tryz.func8, Tryz.ntmps8
    go_wp2_with fail
    refine (may_any _ _ _ _ _ hd).mono ?_
    rintro e w1 ⟨rfl, hb1⟩
    have c0' := later hb1 c0
    go_wp2_with fail
    refine (put_six _ _ ht).mono ?_
    rintro e w2 ⟨rfl, hb2⟩
    have c1' := later hb2 (later hb1 c1)
    go_wp2_with fail
    refine (put_six _ _ hf).mono ?_
    rintro e w3 ⟨rfl, hb3⟩
    have c2' := later hb3 (later hb2 (later hb1 c2))
    go_wp2_with fail
    refine (put_two _ _ ⟨by omega, k1⟩).mono ?_
    rintro e w4 ⟨rfl, hb4⟩
    have c3' := later hb4 (later hb3 (later hb2 (later hb1 c3)))
    go_wp2
    go_ret2
    exact ⟨rfl, bt (bt (bt (bt (hbel _) hb1) hb2) hb3) hb4⟩
  · rw [h, if_neg (by simp)]
    go_enter Tryz.func8, Tryz.ntmps8
    go_wp2_with fail
    refine (may_any _ _ _ _ _ hd).mono ?_
    rintro e w1 ⟨rfl, hb1⟩
    go_wp2
    go_ret2
    exact ⟨rfl, bt (hbel _) hb1⟩

end Go.Proofs.YtkpdmgoldngdaabGreatDoor.Eth

namespace Go.Proofs.YtkpdmgoldngdaabGreatDoor.Eth
open Go.RowKit
set_option maxRecDepth 100000

def dT (s : ByteArray) : Int := numS (s.extract 0 6)
def dF (s : ByteArray) : Int := numS (s.extract 6 12)
def dK (s : ByteArray) : Int := numS (s.extract 12 14)
def dD (s : ByteArray) : ByteArray := s.extract 14 s.size
def decB (s : ByteArray) : Bool := if 14 ≤ s.size then mayB (dT s) (dF s) (dK s) (dD s).size else false
def deT (s : ByteArray) : Int := if decB s = true then dT s else 0
def deF (s : ByteArray) : Int := if decB s = true then dF s else 0
def deK (s : ByteArray) : Int := if decB s = true then dK s else 0
def deD (s : ByteArray) : ByteArray := if decB s = true then dD s else ⟨#[]⟩

def At4 (W : World) (b : Nat) (v0 v1 v2 v3 : Value) : Prop :=
  (W.cell? ⟨b, 0, none⟩ = some v0 ∧ W.cell? ⟨b, 1, none⟩ = some v1 ∧ W.cell? ⟨b, 2, none⟩ = some v2 ∧ W.cell? ⟨b, 3, none⟩ = some v3) ∧
  (W.frozen? ⟨b, 0, none⟩ = false ∧ W.frozen? ⟨b, 1, none⟩ = false ∧ W.frozen? ⟨b, 2, none⟩ = false ∧ W.frozen? ⟨b, 3, none⟩ = false) ∧ b < W.heap.size
theorem at_box (w : World) (v0 v1 v2 v3 : Value) (t : TypeId) : At4 (w.alloc (.cells #[v0, v1, v2, v3] t)) w.heap.size v0 v1 v2 v3 :=
  ⟨box4 w v0 v1 v2 v3 t, by refine ⟨?_, ?_, ?_, ?_⟩ <;> (rw [frozen?_alloc_cells]; simp [World.frozen?]), by simp⟩
theorem At4.later {W x : World} {b : Nat} {v0 v1 v2 v3 : Value} (h : At4 W b v0 v1 v2 v3) (hb : Below W.heap.size W x) : At4 x b v0 v1 v2 v3 :=
  ⟨⟨YtkpdmgoldngdaabGreatDoor.Eth.later hb h.1.1, YtkpdmgoldngdaabGreatDoor.Eth.later hb h.1.2.1, YtkpdmgoldngdaabGreatDoor.Eth.later hb h.1.2.2.1, YtkpdmgoldngdaabGreatDoor.Eth.later hb h.1.2.2.2⟩,
   ⟨(hb.frozen (p := ⟨b, 0, none⟩) h.2.2).trans h.2.1.1, (hb.frozen (p := ⟨b, 1, none⟩) h.2.2).trans h.2.1.2.1, (hb.frozen (p := ⟨b, 2, none⟩) h.2.2).trans h.2.1.2.2.1, (hb.frozen (p := ⟨b, 3, none⟩) h.2.2).trans h.2.1.2.2.2⟩, Nat.lt_of_lt_of_le h.2.2 hb.size⟩

theorem dD_size (s : ByteArray) : (dD s).size = s.size - 14 := by unfold dD; rw [ByteArray.size_extract]; omega
theorem get_to (s : ByteArray) (w : World) (hs : s.size ≤ maxLen) (h : 14 ≤ s.size) :
    Calls Tryz.prog 27 #[.string s, .int .i64 0, .int .i64 6] w fun e w' => e = .returned (.tuple #[.int .i64 (dT s), .int .i64 0]) ∧ Below w.heap.size w w' := by
  have hp : getB s.size 0 6 = true := getB_t ⟨by decide, by decide, by decide, by omega⟩
  have := get_any s 0 6 w hs
  unfold getV at this
  rw [hp] at this
  exact this
theorem get_from (s : ByteArray) (w : World) (hs : s.size ≤ maxLen) (h : 14 ≤ s.size) :
    Calls Tryz.prog 27 #[.string s, .int .i64 6, .int .i64 6] w fun e w' => e = .returned (.tuple #[.int .i64 (dF s), .int .i64 0]) ∧ Below w.heap.size w w' := by
  have hp : getB s.size 6 6 = true := getB_t ⟨by decide, by decide, by decide, by omega⟩
  have := get_any s 6 6 w hs
  unfold getV at this
  rw [hp] at this
  exact this
theorem get_kind (s : ByteArray) (w : World) (hs : s.size ≤ maxLen) (h : 14 ≤ s.size) :
    Calls Tryz.prog 27 #[.string s, .int .i64 12, .int .i64 2] w fun e w' => e = .returned (.tuple #[.int .i64 (dK s), .int .i64 0]) ∧ Below w.heap.size w w' := by
  have hp : getB s.size 12 2 = true := getB_t ⟨by decide, by decide, by decide, by omega⟩
  have := get_any s 12 2 w hs
  unfold getV at this
  rw [hp] at this
  exact this

set_option maxHeartbeats 1000000 in
theorem dec_any (s : ByteArray) (w : World) (hs : s.size ≤ maxLen) :
    Calls Tryz.prog 11 #[.string s] w fun e w' => e = .returned (.tuple #[.agg #[.int .i64 (deT s), .int .i64 (deF s), .int .i64 (deK s), .string (deD s)], .int .i64 (codeE (decB s))]) ∧ Below w.heap.size w w' := by
  have hm := hs
  unfold maxLen at hs
  unfold deT deF deK deD
  by_cases h : 14 ≤ s.size
  · have hz := dD_size s
    have hdm : (dD s).size ≤ maxLen := by rw [hz]; unfold maxLen; omega
    clear hz
    have hr0 := at_box w (.int .i64 0) (.int .i64 0) (.int .i64 0) (.string ⟨#[]⟩) 24
    have hl0 := bel1 w (.cells #[.int .i64 0, .int .i64 0, .int .i64 0, .string ⟨#[]⟩] 24)
    have hsl : ∀ W, (Instr.slice 9 (.string s) (some (.int .i64 14)) none none).run Tryz.prog W = .ok (.string (dD s)) W := fun W => by
      rw [run_slice_string_from_if W 9 s .i64 14 Tryz.underlying9, if_pos ⟨by omega, by omega⟩]; rfl
    rcases Bool.eq_false_or_eq_true (mayB (dT s) (dF s) (dK s) (dD s).size) with g | g
    · have hB : decB s = true := by unfold decB; rw [if_pos h, g]
      rw [hB, if_pos rfl, if_pos rfl, if_pos rfl, if_pos rfl]
      clear hB
      go_enter Tryz.func11, Tryz.ntmps11
      go_wp2_with fail
      refine (get_to _ _ hm h).mono ?_
      rintro e w1 ⟨rfl, hb1⟩
      go_wp2_with fail
      refine (get_from _ _ hm h).mono ?_
      rintro e w2 ⟨rfl, hb2⟩
      go_wp2_with fail
      refine (get_kind _ _ hm h).mono ?_
      rintro e w3 ⟨rfl, hb3⟩
      go_wp2_with fail
      refine (may_any _ _ _ _ _ hdm).mono ?_
      rintro e w4 ⟨rfl, hb4⟩
      obtain ⟨⟨r0, r1, r2, r3⟩, ⟨f0, f1, f2, f3⟩, hlt⟩ := (((hr0.later hb1).later hb2).later hb3).later (bt (bel1 w3 _) hb4)
      obtain ⟨⟨c0, c1, c2, c3⟩, -, -⟩ := (at_box w3 (.int .i64 (dT s)) (.int .i64 (dF s)) (.int .i64 (dK s)) (.string (dD s)) 24).later hb4
      have hbl := bt (bt (bt (bt hl0 hb1) hb2) hb3) (bt (bel1 w3 _) hb4)
      clear hr0 hl0 hb1 hb2 hb3 hb4 hsl
      generalize w3.heap.size = b3 at *
      go_wp2
      exact bodyPost_ret (v := .tuple #[.agg #[.int .i64 (dT s), .int .i64 (dF s), .int .i64 (dK s), .string (dD s)], .int .i64 0]) (by simp [results, Tryz.results11, go_sem, r0, r1, r2, r3]) rfl ⟨rfl, (((hbl.setCell (Nat.le_refl _) _).setCell (Nat.le_refl _) _).setCell (Nat.le_refl _) _).setCell (Nat.le_refl _) _⟩
    · have hB : decB s = false := by unfold decB; rw [if_pos h, g]
      rw [hB, if_neg (by simp), if_neg (by simp), if_neg (by simp), if_neg (by simp)]
      clear hB
      go_enter Tryz.func11, Tryz.ntmps11
      go_wp2_with fail
      refine (get_to _ _ hm h).mono ?_
      rintro e w1 ⟨rfl, hb1⟩
      go_wp2_with fail
      refine (get_from _ _ hm h).mono ?_
      rintro e w2 ⟨rfl, hb2⟩
      go_wp2_with fail
      refine (get_kind _ _ hm h).mono ?_
      rintro e w3 ⟨rfl, hb3⟩
      go_wp2_with fail
      refine (may_any _ _ _ _ _ hdm).mono ?_
      rintro e w4 ⟨rfl, hb4⟩
      obtain ⟨⟨r0, r1, r2, r3⟩, ⟨f0, f1, f2, f3⟩, hlt⟩ := (((hr0.later hb1).later hb2).later hb3).later (bt (bel1 w3 _) hb4)
      have hbl := bt (bt (bt (bt hl0 hb1) hb2) hb3) (bt (bel1 w3 _) hb4)
      clear hr0 hl0 hb1 hb2 hb3 hb4 hsl
      generalize w3.heap.size = b3 at *
      go_wp2
      exact bodyPost_ret (v := .tuple #[.agg #[.int .i64 0, .int .i64 0, .int .i64 0, .string ⟨#[]⟩], .int .i64 30]) (by simp [results, Tryz.results11, go_sem, r0, r1, r2, r3]) rfl ⟨rfl, (((hbl.setCell (Nat.le_refl _) _).setCell (Nat.le_refl _) _).setCell (Nat.le_refl _) _).setCell (Nat.le_refl _) _⟩
  · have hB : decB s = false := by unfold decB; rw [if_neg h]
    rw [hB, if_neg (by simp), if_neg (by simp), if_neg (by simp), if_neg (by simp)]
    clear hB
    have hr0 := at_box w (.int .i64 0) (.int .i64 0) (.int .i64 0) (.string ⟨#[]⟩) 24
    have hl0 := bel1 w (.cells #[.int .i64 0, .int .i64 0, .int .i64 0, .string ⟨#[]⟩] 24)
    go_enter Tryz.func11, Tryz.ntmps11
    go_wp2
    exact bodyPost_ret (v := .tuple #[.agg #[.int .i64 0, .int .i64 0, .int .i64 0, .string ⟨#[]⟩], .int .i64 30]) (by simp [results, Tryz.results11, go_sem]) rfl ⟨rfl, hl0⟩
end Go.Proofs.YtkpdmgoldngdaabGreatDoor.Eth

namespace Go.Proofs.YtkpdmgoldngdaabGreatDoor.Eth
open Go.RowKit
set_option maxRecDepth 100000

theorem byteAt_succ (n : Int) (j : Nat) : byteAt n (j + 1) = byteAt (n / 256) j := by
  unfold byteAt
  rw [show 8 * (j + 1) = 8 + 8 * j by omega, Int.pow_add, ← Int.ediv_ediv_of_nonneg (by decide)]
  rfl
theorem txtL_succ (n : Int) (k : Nat) : txtL n (k + 1) = txtL (n / 256) k ++ [byteAt n 0] := by
  unfold txtL
  rw [List.range_succ, List.map_append]
  congr 1
  · apply List.map_congr_left
    intro i hi
    have := List.mem_range.1 hi
    rw [show k + 1 - 1 - i = (k - 1 - i) + 1 by omega, byteAt_succ]
  · simp
theorem numL_txtL (k : Nat) : ∀ n : Int, numL (txtL n k) = n % 256 ^ k := by
  induction k with
  | zero => intro n; simp [txtL, numL]
  | succ k ih =>
    intro n
    rw [txtL_succ, numL_snoc, ih, byteAt_toNat]
    have hm : (0 : Int) < 256 ^ k := Int.pow_pos (by decide)
    rw [Int.pow_succ]
    generalize (256 : Int) ^ k = m at hm
    simp only [Nat.mul_zero, Int.pow_zero, Int.ediv_one]
    have e1 := Int.emod_add_mul_ediv (n / 256) m
    have b0 := Int.emod_nonneg (n / 256) (by omega : m ≠ 0)
    have b1 := Int.emod_lt_of_pos (n / 256) hm
    generalize n / 256 % m = r at e1 b0 b1 ⊢
    generalize n / 256 / m = q at e1
    have e2 : n = (r * 256 + n % 256) + (m * 256) * q := by
      rw [Int.mul_assoc, Int.mul_comm 256 q, ← Int.mul_assoc]
      omega
    have e3 : (r * 256 + n % 256) % (m * 256) = r * 256 + n % 256 := Int.emod_eq_of_lt (by omega) (by omega)
    have e4 : n % (m * 256) = ((r * 256 + n % 256) + (m * 256) * q) % (m * 256) := by rw [← e2]
    rw [e4, Int.add_mul_emod_self_left, e3]
theorem num_txt (n : Int) (k : Nat) (h0 : 0 ≤ n) (h1 : n < 256 ^ k) : numL (txtL n k) = n := by
  rw [numL_txtL, Int.emod_eq_of_lt h0 h1]
theorem byteAt_low (x : Int) (b : UInt8) : byteAt (x * 256 + (b.toNat : Int)) 0 = b := by
  have h := byteAt_toNat (x * 256 + (b.toNat : Int)) 0
  have hb := b.toNat_lt
  apply UInt8.toNat_inj.1
  simp only [Nat.mul_zero, Int.pow_zero, Int.ediv_one] at h
  omega
theorem txt_num (k : Nat) : ∀ l : List UInt8, l.length = k → txtL (numL l) k = l := by
  induction k with
  | zero => intro l h; rw [List.length_eq_zero_iff.1 h]; simp [txtL]
  | succ k ih =>
    intro l h
    have hl : l ≠ [] := by intro e; rw [e] at h; simp at h
    rw [← List.dropLast_concat_getLast hl] at h ⊢
    generalize l.dropLast = a at h ⊢
    generalize l.getLast hl = b at h ⊢
    have hb := b.toNat_lt
    rw [txtL_succ, numL_snoc, byteAt_low, show (numL a * 256 + (b.toNat : Int)) / 256 = numL a by omega, ih a (by simpa using h)]

theorem enc_toList (t f k : Int) (d : ByteArray) : (encS t f k d).data.toList = txtL t 6 ++ (txtL f 6 ++ (txtL k 2 ++ d.data.toList)) := by
  unfold encS
  rw [app_toList, app_toList, app_toList, txt_toList, txt_toList, txt_toList, List.append_assoc, List.append_assoc]
theorem enc_size (t f k : Int) (d : ByteArray) : (encS t f k d).size = 14 + d.size := by
  unfold encS
  rw [ByteArray.size_append, ByteArray.size_append, ByteArray.size_append, txt_size, txt_size, txt_size]
theorem dT_enc (t f k : Int) (d : ByteArray) (h : 0 ≤ t ∧ t ≤ 281474976710655) : dT (encS t f k d) = t := by
  unfold dT numS
  rw [ext_toList, enc_toList, List.drop_zero, List.take_left' (by rw [txtL_len])]
  exact num_txt t 6 h.1 (by have := h.2; omega)
theorem dF_enc (t f k : Int) (d : ByteArray) (h : 0 ≤ f ∧ f ≤ 281474976710655) : dF (encS t f k d) = f := by
  unfold dF numS
  rw [ext_toList, enc_toList, List.drop_left' (by rw [txtL_len]), List.take_left' (by rw [txtL_len])]
  exact num_txt f 6 h.1 (by have := h.2; omega)
theorem dK_enc (t f k : Int) (d : ByteArray) (h : 0 ≤ k ∧ k ≤ 65535) : dK (encS t f k d) = k := by
  unfold dK numS
  rw [ext_toList, enc_toList, ← List.append_assoc, List.drop_left' (by rw [List.length_append, txtL_len, txtL_len]), List.take_left' (by rw [txtL_len])]
  exact num_txt k 2 h.1 (by have := h.2; omega)
theorem dD_enc (t f k : Int) (d : ByteArray) : dD (encS t f k d) = d := by
  apply ba_toList
  unfold dD
  rw [ext_toList, enc_toList, enc_size, ← List.append_assoc, ← List.append_assoc, List.drop_left' (by rw [List.length_append, List.length_append, txtL_len, txtL_len, txtL_len]), List.take_of_length_le (by rw [len_toList]; omega)]

theorem enc_dec (s : ByteArray) (h : 14 ≤ s.size) : encS (dT s) (dF s) (dK s) (dD s) = s := by
  apply ba_toList
  have hl := len_toList s
  rw [enc_toList]
  unfold dT dF dK dD numS
  rw [ext_toList, ext_toList, ext_toList, ext_toList]
  rw [txt_num 6 _ (by rw [List.length_take, List.length_drop]; omega), txt_num 6 _ (by rw [List.length_take, List.length_drop]; omega), txt_num 2 _ (by rw [List.length_take, List.length_drop]; omega)]
  rw [List.take_of_length_le (l := s.data.toList.drop 14) (by rw [List.length_drop]; omega)]
  generalize s.data.toList = l at *
  have e1 : l.drop 14 = (l.drop 12).drop 2 := by rw [List.drop_drop]
  have e2 : l.drop 12 = (l.drop 6).drop 6 := by rw [List.drop_drop]
  rw [e1, List.take_append_drop, e2, List.take_append_drop, List.drop_zero, List.take_append_drop]

theorem dec_of_enc {t f k : Int} {d : ByteArray} (h : mayB t f k d.size = true) :
    decB (encS t f k d) = true ∧ deT (encS t f k d) = t ∧ deF (encS t f k d) = f ∧ deK (encS t f k d) = k ∧ deD (encS t f k d) = d := by
  obtain ⟨ht, hf, hg, hk, hz⟩ := may_parts h
  have e1 := dT_enc t f k d ht
  have e2 := dF_enc t f k d hf
  have e3 := dK_enc t f k d ⟨by omega, hk.2⟩
  have e4 := dD_enc t f k d
  have hB : decB (encS t f k d) = true := by
    unfold decB; rw [if_pos (by rw [enc_size]; omega), e1, e2, e3, e4, h]
  unfold deT deF deK deD
  rw [hB]
  exact ⟨rfl, e1, e2, e3, e4⟩
theorem enc_of_dec {s : ByteArray} (h : decB s = true) : mayB (deT s) (deF s) (deK s) (deD s).size = true ∧ encV (deT s) (deF s) (deK s) (deD s) = s := by
  unfold deT deF deK deD encV
  rw [h]
  unfold decB at h
  by_cases hz : 14 ≤ s.size
  · rw [if_pos hz] at h
    simp only [if_true]
    rw [h]
    exact ⟨rfl, enc_dec s hz⟩
  · rw [if_neg hz] at h; cases h
end Go.Proofs.YtkpdmgoldngdaabGreatDoor.Eth

namespace Go.Proofs.YtkpdmgoldngdaabGreatDoor.Eth.Arp
open Go.RowKit
set_option maxRecDepth 100000

def mayA (o fm fi tm ti : Int) : Bool := decide ((o = 1 ∨ o = 2) ∧ (0 ≤ fm ∧ fm ≤ 281474976710655) ∧ fm / 1099511627776 % 2 = 0 ∧ (0 ≤ fi ∧ fi ≤ 4294967295) ∧ (0 ≤ tm ∧ tm ≤ 281474976710655) ∧ (0 ≤ ti ∧ ti ≤ 4294967295))
theorem later {w x : World} {a : Addr} {v : Value} (hb : Below w.heap.size w x) (h : w.cell? a = some v) : x.cell? a = some v := (hb.cell (World.block_lt_of_cell? _ _ h)).trans h

def At (W : World) (b : Nat) (vs : Array Value) : Prop := b < W.heap.size ∧ ∀ i v, vs[i]? = some v → W.cell? ⟨b, i, none⟩ = some v ∧ W.frozen? ⟨b, i, none⟩ = false
theorem At.box (w : World) (vs : Array Value) (t : TypeId) : At (w.alloc (.cells vs t)) w.heap.size vs := by
  refine ⟨by simp, fun i v h => ⟨?_, ?_⟩⟩
  · simp [World.cell?_alloc_new, h]
  · rw [frozen?_alloc_cells]; simp [World.frozen?]
theorem At.later {W x : World} {b : Nat} {vs : Array Value} (h : At W b vs) (hb : Below W.heap.size W x) : At x b vs :=
  ⟨Nat.lt_of_lt_of_le h.1 hb.size, fun i v hi => ⟨YtkpdmgoldngdaabGreatDoor.Eth.Arp.later hb (h.2 i v hi).1, (hb.frozen (p := ⟨b, i, none⟩) h.1).trans (h.2 i v hi).2⟩⟩

theorem and_ip (n : Int) : bits .and .i64 n 4294967295 = n % 4294967296 := by
  show IntKind.i64.wrap ((BitVec.ofInt 64 n &&& BitVec.ofInt 64 4294967295).toNat : Nat) = _
  have e : (BitVec.ofInt 64 4294967295).toNat = 2 ^ 32 - 1 := by decide
  rw [BitVec.toNat_and, e, Nat.and_two_pow_sub_one_eq_mod, BitVec.toNat_ofInt, IntKind.wrap_i64]
  omega
theorem and_mac (n : Int) : bits .and .i64 n 281474976710655 = n % 281474976710656 := by
  show IntKind.i64.wrap ((BitVec.ofInt 64 n &&& BitVec.ofInt 64 281474976710655).toNat : Nat) = _
  have e : (BitVec.ofInt 64 281474976710655).toNat = 2 ^ 48 - 1 := by decide
  rw [BitVec.toNat_and, e, Nat.and_two_pow_sub_one_eq_mod, BitVec.toNat_ofInt, IntKind.wrap_i64]
  omega

theorem narrow_any (o fm fi tm ti : Int) (w : World) :
    Calls Tryz.prog 103 #[.agg #[.int .i64 o, .int .i64 fm, .int .i64 fi, .int .i64 tm, .int .i64 ti]] w fun e w' => e = .returned (.agg #[.int .i64 o, .int .i64 fm, .int .i64 (fi % 4294967296), .int .i64 (tm % 281474976710656), .int .i64 (ti % 4294967296)]) ∧ Below w.heap.size w w' := by
  have a1 := and_ip fi
  have a2 := and_mac tm
  have a3 := and_ip ti
  go_enter Tryz.func103, Tryz.ntmps103
  go_wp2
  exact bodyPost_ret (v := .agg #[.int .i64 o, .int .i64 fm, .int .i64 (fi % 4294967296), .int .i64 (tm % 281474976710656), .int .i64 (ti % 4294967296)]) (by simp [results, Tryz.results103, go_sem]) rfl ⟨rfl, bt (bel1 _ _) (bel1 _ _)⟩

theorem mayA_t {o fm fi tm ti : Int} (h : (o = 1 ∨ o = 2) ∧ (0 ≤ fm ∧ fm ≤ 281474976710655) ∧ fm / 1099511627776 % 2 = 0 ∧ (0 ≤ fi ∧ fi ≤ 4294967295) ∧ (0 ≤ tm ∧ tm ≤ 281474976710655) ∧ (0 ≤ ti ∧ ti ≤ 4294967295)) : mayA o fm fi tm ti = true := decide_eq_true h
theorem mayA_f {o fm fi tm ti : Int} (h : ¬ ((o = 1 ∨ o = 2) ∧ (0 ≤ fm ∧ fm ≤ 281474976710655) ∧ fm / 1099511627776 % 2 = 0 ∧ (0 ≤ fi ∧ fi ≤ 4294967295) ∧ (0 ≤ tm ∧ tm ≤ 281474976710655) ∧ (0 ≤ ti ∧ ti ≤ 4294967295))) : mayA o fm fi tm ti = false := decide_eq_false h
theorem keep5 {w W x : World} {a b c d f : Addr} {v0 v1 v2 v3 v4 : Value} (hb : Below W.heap.size W x) (h : Below w.heap.size w W ∧ W.cell? a = some v0 ∧ W.cell? b = some v1 ∧ W.cell? c = some v2 ∧ W.cell? d = some v3 ∧ W.cell? f = some v4) :
    Below w.heap.size w x ∧ x.cell? a = some v0 ∧ x.cell? b = some v1 ∧ x.cell? c = some v2 ∧ x.cell? d = some v3 ∧ x.cell? f = some v4 :=
  ⟨bt h.1 hb, later hb h.2.1, later hb h.2.2.1, later hb h.2.2.2.1, later hb h.2.2.2.2.1, later hb h.2.2.2.2.2⟩
theorem box5 (w : World) (v0 v1 v2 v3 v4 : Value) (t : TypeId) : (w.alloc (.cells #[v0, v1, v2, v3, v4] t)).cell? ⟨w.heap.size, 0, none⟩ = some v0 ∧ (w.alloc (.cells #[v0, v1, v2, v3, v4] t)).cell? ⟨w.heap.size, 1, none⟩ = some v1 ∧
    (w.alloc (.cells #[v0, v1, v2, v3, v4] t)).cell? ⟨w.heap.size, 2, none⟩ = some v2 ∧ (w.alloc (.cells #[v0, v1, v2, v3, v4] t)).cell? ⟨w.heap.size, 3, none⟩ = some v3 ∧ (w.alloc (.cells #[v0, v1, v2, v3, v4] t)).cell? ⟨w.heap.size, 4, none⟩ = some v4 := by
  refine ⟨?_, ?_, ?_, ?_, ?_⟩ <;> simp [World.cell?_alloc_new]
end Go.Proofs.YtkpdmgoldngdaabGreatDoor.Eth.Arp

namespace Go.Proofs.YtkpdmgoldngdaabGreatDoor.Eth.Arp
open Go.RowKit
set_option maxRecDepth 100000

theorem neb {a b : Int} (h : ¬ a = b) : (a != b) = true := by simpa using h
theorem op_ways {o : Int} (h : o = 1 ∨ o = 2) : (o != 1) = false ∨ (o != 1) = true ∧ (o != 2) = false := by rcases h with rfl | rfl <;> simp
theorem amay_op (o fm fi tm ti : Int) (w : World) (h1 : ¬ o = 1) (h2 : ¬ o = 2) :
    Calls Tryz.prog 78 #[.agg #[.int .i64 o, .int .i64 fm, .int .i64 fi, .int .i64 tm, .int .i64 ti]] w fun e w' => e = .returned (.bool false) ∧ Below w.heap.size w w' := by
  have b1 := neb h1
  have b2 := neb h2
  go_enter Tryz.func78, Tryz.ntmps78
  go_wp2
  go_ret
  exact ⟨rfl, bel1 _ _⟩

theorem pg_1 {n : Int} (h : macB n = false) (w : World) : Calls Tryz.prog 102 #[.int .i64 n] w fun e w' => e = .returned (.tuple #[.bool false, .int .i64 1]) ∧ w' = w := by
  have := pgroup_any n w; rw [h] at this; exact this
theorem pg_2 {n : Int} (h : macB n = true) (g : grpB n = true) (w : World) : Calls Tryz.prog 102 #[.int .i64 n] w fun e w' => e = .returned (.tuple #[.bool true, .int .i64 0]) ∧ w' = w := by
  have := pgroup_any n w; rw [h, g] at this; exact this
theorem pg_3 {n : Int} (h : macB n = true) (g : grpB n = false) (w : World) : Calls Tryz.prog 102 #[.int .i64 n] w fun e w' => e = .returned (.tuple #[.bool false, .int .i64 0]) ∧ w' = w := by
  have := pgroup_any n w; rw [h, g] at this; exact this
theorem amay_mac (o fm fi tm ti : Int) (w : World) (ho : o = 1 ∨ o = 2) (h : macB fm = false ∨ macB fm = true ∧ grpB fm = true) :
    Calls Tryz.prog 78 #[.agg #[.int .i64 o, .int .i64 fm, .int .i64 fi, .int .i64 tm, .int .i64 ti]] w fun e w' => e = .returned (.bool false) ∧ Below w.heap.size w w' := by
  have hx := box5 w (.int .i64 o) (.int .i64 fm) (.int .i64 fi) (.int .i64 tm) (.int .i64 ti) 26
  have hbel := bel1 w
  rcases op_ways ho with ho | ⟨ho, ho2⟩
  all_goals
    rcases h with h | ⟨h, g⟩
    all_goals
      go_enter Tryz.func78, Tryz.ntmps78
      go_wp2_with fail
      first | refine (pg_2 h g _).mono ?_ | refine (pg_1 h _).mono ?_
      rintro e w1 ⟨rfl, rfl⟩
      go_wp2
      go_quiet (fail)
      go_wp2
      go_ret
      exact ⟨rfl, below_drewN (hbel _) _⟩

set_option maxHeartbeats 2000000 in
theorem amay_rest (o fm fi tm ti : Int) (b : Bool) (w : World) (ho : o = 1 ∨ o = 2) (h : macB fm = true) (g : grpB fm = false)
    (hb : b = true ∧ fi = fi % 4294967296 ∧ tm = tm % 281474976710656 ∧ ti = ti % 4294967296 ∨ b = false ∧ ¬ fi = fi % 4294967296 ∨ b = false ∧ fi = fi % 4294967296 ∧ ¬ tm = tm % 281474976710656 ∨ b = false ∧ fi = fi % 4294967296 ∧ tm = tm % 281474976710656 ∧ ¬ ti = ti % 4294967296) :
    Calls Tryz.prog 78 #[.agg #[.int .i64 o, .int .i64 fm, .int .i64 fi, .int .i64 tm, .int .i64 ti]] w fun e w' => e = .returned (.bool b) ∧ Below w.heap.size w w' := by
  have hx := box5 w (.int .i64 o) (.int .i64 fm) (.int .i64 fi) (.int .i64 tm) (.int .i64 ti) 26
  have hbel := bel1 w
  have hn := fun W => narrow_any o fm fi tm ti W
  generalize fi % 4294967296 = fi' at *
  generalize tm % 281474976710656 = tm' at *
  generalize ti % 4294967296 = ti' at *
  rcases op_ways ho with ho | ⟨ho, ho2⟩
  all_goals
    rcases hb with ⟨rfl, rfl, rfl, rfl⟩ | ⟨rfl, q⟩ | ⟨rfl, rfl, q⟩ | ⟨rfl, rfl, rfl, q⟩
    all_goals
      go_enter Tryz.func78, Tryz.ntmps78
      go_wp2_with fail
      refine (pg_3 h g _).mono ?_
      rintro e w1 ⟨rfl, rfl⟩
      go_wp2
      have hx5 := And.intro (hbel (.cells #[.int .i64 o, .int .i64 fm, .int .i64 fi, .int .i64 tm, .int .i64 ti] 26)) hx
      clear hx hbel
      generalize w.alloc (.cells #[.int .i64 o, .int .i64 fm, .int .i64 fi, .int .i64 tm, .int .i64 ti] 26) = W0 at hx5 ⊢
      go_region_held3 (fun W => Below w.heap.size w W ∧ W.cell? ⟨w.heap.size, 0, none⟩ = some (.int .i64 o) ∧ W.cell? ⟨w.heap.size, 1, none⟩ = some (.int .i64 fm) ∧ W.cell? ⟨w.heap.size, 2, none⟩ = some (.int .i64 fi) ∧ W.cell? ⟨w.heap.size, 3, none⟩ = some (.int .i64 tm) ∧ W.cell? ⟨w.heap.size, 4, none⟩ = some (.int .i64 ti)) (first | exact ⟨hx5.1.drew, hx5.2.1, hx5.2.2.1, hx5.2.2.2.1, hx5.2.2.2.2.1, hx5.2.2.2.2.2⟩ | (refine keep5 hb ?_; assumption)) ((go_at_call 103; refine (hn _).mono ?_; rintro e w' ⟨rfl, hb⟩))
      all_goals
        go_wp2
        go_ret
        rename_i hq
        exact ⟨rfl, hq.1⟩

theorem ip_fit (n : Int) : n = n % 4294967296 ↔ 0 ≤ n ∧ n ≤ 4294967295 := by omega
theorem mac_fit (n : Int) : n = n % 281474976710656 ↔ 0 ≤ n ∧ n ≤ 281474976710655 := by omega

theorem amay_any (o fm fi tm ti : Int) (w : World) :
    Calls Tryz.prog 78 #[.agg #[.int .i64 o, .int .i64 fm, .int .i64 fi, .int .i64 tm, .int .i64 ti]] w fun e w' => e = .returned (.bool (mayA o fm fi tm ti)) ∧ Below w.heap.size w w' := by
  by_cases ho : o = 1 ∨ o = 2
  · by_cases hm : 0 ≤ fm ∧ fm ≤ 281474976710655
    · by_cases hg : fm / 1099511627776 % 2 = 0
      · apply amay_rest _ _ _ _ _ _ _ ho (macB_t hm) (grpB_f hg)
        by_cases h1 : fi = fi % 4294967296
        · by_cases h2 : tm = tm % 281474976710656
          · by_cases h3 : ti = ti % 4294967296
            · exact .inl ⟨mayA_t ⟨ho, hm, hg, (ip_fit _).1 h1, (mac_fit _).1 h2, (ip_fit _).1 h3⟩, h1, h2, h3⟩
            · exact .inr (.inr (.inr ⟨mayA_f fun h => h3 ((ip_fit _).2 h.2.2.2.2.2), h1, h2, h3⟩))
          · exact .inr (.inr (.inl ⟨mayA_f fun h => h2 ((mac_fit _).2 h.2.2.2.2.1), h1, h2⟩))
        · exact .inr (.inl ⟨mayA_f fun h => h1 ((ip_fit _).2 h.2.2.2.1), h1⟩)
      · rw [mayA_f (fun h => hg h.2.2.1)]
        exact amay_mac _ _ _ _ _ _ ho (.inr ⟨macB_t hm, grpB_t (by omega)⟩)
    · rw [mayA_f (fun h => hm h.2.1)]
      exact amay_mac _ _ _ _ _ _ ho (.inl (macB_f hm))
  · rw [mayA_f (fun h => ho h.1)]
    exact amay_op _ _ _ _ _ _ (fun h => ho (.inl h)) (fun h => ho (.inr h))

end Go.Proofs.YtkpdmgoldngdaabGreatDoor.Eth.Arp

namespace Go.Proofs.YtkpdmgoldngdaabGreatDoor.Eth.Arp
open Go.RowKit
set_option maxRecDepth 100000

theorem At.five {W : World} {b : Nat} {v0 v1 v2 v3 v4 : Value} (h : At W b #[v0, v1, v2, v3, v4]) : (W.cell? ⟨b, 0, none⟩ = some v0 ∧ W.cell? ⟨b, 1, none⟩ = some v1 ∧ W.cell? ⟨b, 2, none⟩ = some v2 ∧ W.cell? ⟨b, 3, none⟩ = some v3 ∧ W.cell? ⟨b, 4, none⟩ = some v4) ∧
    (W.frozen? ⟨b, 0, none⟩ = false ∧ W.frozen? ⟨b, 1, none⟩ = false ∧ W.frozen? ⟨b, 2, none⟩ = false ∧ W.frozen? ⟨b, 3, none⟩ = false ∧ W.frozen? ⟨b, 4, none⟩ = false) ∧ b < W.heap.size :=
  ⟨⟨(h.2 0 _ rfl).1, (h.2 1 _ rfl).1, (h.2 2 _ rfl).1, (h.2 3 _ rfl).1, (h.2 4 _ rfl).1⟩, ⟨(h.2 0 _ rfl).2, (h.2 1 _ rfl).2, (h.2 2 _ rfl).2, (h.2 3 _ rfl).2, (h.2 4 _ rfl).2⟩, h.1⟩
theorem At.box2 (w : World) (o : Obj) (vs : Array Value) (t : TypeId) : At ((w.alloc o).alloc (.cells vs t)) (w.heap.size + 1) vs := by have := At.box (w.alloc o) vs t; rwa [World.size_alloc] at this
theorem below5 {w W : World} {b : Nat} (h : Below w.heap.size w W) (hb : w.heap.size ≤ b) (v0 v1 v2 v3 v4 : Value) : Below w.heap.size w (((((W.setCell ⟨b, 0, none⟩ v0).setCell ⟨b, 1, none⟩ v1).setCell ⟨b, 2, none⟩ v2).setCell ⟨b, 3, none⟩ v3).setCell ⟨b, 4, none⟩ v4) :=
  ((((h.setCell hb _).setCell hb _).setCell hb _).setCell hb _).setCell hb _


theorem amay_t {o fm fi tm ti : Int} (h : mayA o fm fi tm ti = true) (w : World) : Calls Tryz.prog 78 #[.agg #[.int .i64 o, .int .i64 fm, .int .i64 fi, .int .i64 tm, .int .i64 ti]] w fun e w' => e = .returned (.bool true) ∧ Below w.heap.size w w' := by
  have := amay_any o fm fi tm ti w; rw [h] at this; exact this
theorem amay_f {o fm fi tm ti : Int} (h : mayA o fm fi tm ti = false) (w : World) : Calls Tryz.prog 78 #[.agg #[.int .i64 o, .int .i64 fm, .int .i64 fi, .int .i64 tm, .int .i64 ti]] w fun e w' => e = .returned (.bool false) ∧ Below w.heap.size w w' := by
  have := amay_any o fm fi tm ti w; rw [h] at this; exact this

end Go.Proofs.YtkpdmgoldngdaabGreatDoor.Eth.Arp

namespace Go.Proofs.YtkpdmgoldngdaabGreatDoor.Eth.Arp
open Go.RowKit
set_option maxRecDepth 100000

theorem ckd_t {o fm fi tm ti : Int} (h : mayA o fm fi tm ti = true) (w : World) :
    Calls Tryz.prog 59 #[.agg #[.int .i64 o, .int .i64 fm, .int .i64 fi, .int .i64 tm, .int .i64 ti]] w fun e w' => e = .returned (.tuple #[.agg #[.int .i64 o, .int .i64 fm, .int .i64 fi, .int .i64 tm, .int .i64 ti], .int .i64 0]) ∧ Below w.heap.size w w' := by
  have hA := (At.box w #[.int .i64 o, .int .i64 fm, .int .i64 fi, .int .i64 tm, .int .i64 ti] 26).later (bel1 _ (.cells #[.int .i64 0, .int .i64 0, .int .i64 0, .int .i64 0, .int .i64 0] 26))
  have hl := bt (bel1 w (.cells #[.int .i64 o, .int .i64 fm, .int .i64 fi, .int .i64 tm, .int .i64 ti] 26)) (bel1 _ (.cells #[.int .i64 0, .int .i64 0, .int .i64 0, .int .i64 0, .int .i64 0] 26))
  have hR := At.box2 w (.cells #[.int .i64 o, .int .i64 fm, .int .i64 fi, .int .i64 tm, .int .i64 ti] 26) #[.int .i64 0, .int .i64 0, .int .i64 0, .int .i64 0, .int .i64 0] 26
  go_enter Tryz.func59, Tryz.ntmps59
  go_wp2_with fail
  refine (amay_t h _).mono ?_
  rintro e w1 ⟨rfl, hb⟩
  have hl := bt hl hb
  obtain ⟨⟨c0, c1, c2, c3, c4⟩, -, -⟩ := (hA.later hb).five
  obtain ⟨⟨r0, r1, r2, r3, r4⟩, ⟨f0, f1, f2, f3, f4⟩, hlt⟩ := (hR.later hb).five
  clear hA hR hb
  go_wp2
  exact bodyPost_ret (v := .tuple #[.agg #[.int .i64 o, .int .i64 fm, .int .i64 fi, .int .i64 tm, .int .i64 ti], .int .i64 0]) (by simp [results, Tryz.results59, go_sem, r0, r1, r2, r3, r4]) rfl ⟨rfl, below5 hl (Nat.le_succ _) _ _ _ _ _⟩

theorem ckd_f {o fm fi tm ti : Int} (h : mayA o fm fi tm ti = false) (w : World) :
    Calls Tryz.prog 59 #[.agg #[.int .i64 o, .int .i64 fm, .int .i64 fi, .int .i64 tm, .int .i64 ti]] w fun e w' => e = .returned (.tuple #[.agg #[.int .i64 0, .int .i64 0, .int .i64 0, .int .i64 0, .int .i64 0], .int .i64 40]) ∧ Below w.heap.size w w' := by
  have hA := (At.box w #[.int .i64 o, .int .i64 fm, .int .i64 fi, .int .i64 tm, .int .i64 ti] 26).later (bel1 _ (.cells #[.int .i64 0, .int .i64 0, .int .i64 0, .int .i64 0, .int .i64 0] 26))
  have hl := bt (bel1 w (.cells #[.int .i64 o, .int .i64 fm, .int .i64 fi, .int .i64 tm, .int .i64 ti] 26)) (bel1 _ (.cells #[.int .i64 0, .int .i64 0, .int .i64 0, .int .i64 0, .int .i64 0] 26))
  have hR := At.box2 w (.cells #[.int .i64 o, .int .i64 fm, .int .i64 fi, .int .i64 tm, .int .i64 ti] 26) #[.int .i64 0, .int .i64 0, .int .i64 0, .int .i64 0, .int .i64 0] 26
  go_enter Tryz.func59, Tryz.ntmps59
  go_wp2_with fail
  refine (amay_f h _).mono ?_
  rintro e w1 ⟨rfl, hb⟩
  have hl := bt hl hb
  obtain ⟨⟨c0, c1, c2, c3, c4⟩, -, -⟩ := (hA.later hb).five
  obtain ⟨⟨r0, r1, r2, r3, r4⟩, ⟨f0, f1, f2, f3, f4⟩, hlt⟩ := (hR.later hb).five
  clear hA hR hb
  go_wp2
  exact bodyPost_ret (v := .tuple #[.agg #[.int .i64 0, .int .i64 0, .int .i64 0, .int .i64 0, .int .i64 0], .int .i64 40]) (by simp [results, Tryz.results59, go_sem, r0, r1, r2, r3, r4]) rfl ⟨rfl, below5 hl (Nat.le_succ _) _ _ _ _ _⟩

end Go.Proofs.YtkpdmgoldngdaabGreatDoor.Eth.Arp

namespace Go.Proofs.YtkpdmgoldngdaabGreatDoor.Eth.Arp
open Go.RowKit
set_option maxRecDepth 100000

def hdS : ByteArray := ⟨#[0, 1, 8, 0, 6, 4]⟩
end Go.Proofs.YtkpdmgoldngdaabGreatDoor.Eth.Arp

namespace Go.Proofs.YtkpdmgoldngdaabGreatDoor.Eth.Arp
open Go.RowKit
set_option maxRecDepth 100000
set_option linter.unusedVariables false
def aO (s : ByteArray) : Int := numS (s.extract 6 8)
def aFm (s : ByteArray) : Int := numS (s.extract 8 14)
def aFi (s : ByteArray) : Int := numS (s.extract 14 18)
def aTm (s : ByteArray) : Int := numS (s.extract 18 24)
def aTi (s : ByteArray) : Int := numS (s.extract 24 28)
def mayS (s : ByteArray) : Bool := mayA (aO s) (aFm s) (aFi s) (aTm s) (aTi s)
def preB (s : ByteArray) : Bool := (s.extract 0 6).toList == hdS.toList
def decA (s : ByteArray) : Bool := decide (28 ≤ s.size ∧ s.size ≤ 46) && preB s && mayS s
theorem decA_ways (s : ByteArray) : (decA s = false ∧ s.size < 28) ∨ (decA s = false ∧ 46 < s.size) ∨ ((28 ≤ s.size ∧ s.size ≤ 46) ∧ ((decA s = false ∧ preB s = false) ∨ preB s = true ∧ ((decA s = false ∧ mayS s = false) ∨ (decA s = true ∧ mayS s = true)))) := by
  unfold decA
  by_cases h1 : s.size < 28
  · exact .inl ⟨by rw [decide_eq_false (by omega)]; rfl, h1⟩
  · by_cases h2 : 46 < s.size
    · exact .inr (.inl ⟨by rw [decide_eq_false (by omega)]; rfl, h2⟩)
    · refine .inr (.inr ⟨⟨by omega, by omega⟩, ?_⟩)
      rw [decide_eq_true ⟨by omega, by omega⟩]
      cases preB s <;> cases mayS s <;> simp

theorem slpre_any (s p : ByteArray) (w : World) (hs : s.size ≤ maxLen) (h : p.size ≤ s.size) :
    Calls Tryz.prog 77 #[.string s, .string p] w fun e w' => e = .returned (.bool ((s.extract 0 p.size).toList == p.toList)) ∧ w' = w := by
  unfold maxLen at hs
  go_enter Tryz.func77, Tryz.ntmps77
  go_wp2
  go_ret
  exact ⟨rfl, rfl⟩
theorem spre_any (s p : ByteArray) (w : World) (hs : s.size ≤ maxLen) (h : p.size ≤ s.size) :
    Calls Tryz.prog 58 #[.string s, .string p] w fun e w' => e = .returned (.bool ((s.extract 0 p.size).toList == p.toList)) ∧ w' = w := by
  go_enter Tryz.func58, Tryz.ntmps58
  go_wp2_with fail
  refine (slpre_any _ _ _ hs h).mono ?_
  rintro e w1 ⟨rfl, rfl⟩
  go_wp2
  go_ret
  exact ⟨rfl, rfl⟩
theorem pre_any (s : ByteArray) (w : World) (hs : s.size ≤ maxLen) (h : 28 ≤ s.size) :
    Calls Tryz.prog 58 #[.string s, .string ⟨#[0, 1, 8, 0, 6, 4]⟩] w fun e w' => e = .returned (.bool (preB s)) ∧ w' = w := spre_any s ⟨#[0, 1, 8, 0, 6, 4]⟩ w hs (by show 6 ≤ s.size; omega)

theorem get_k (s : ByteArray) (off k : Int) (w : World) (hs : s.size ≤ maxLen) (h : 28 ≤ s.size) (hk : 1 ≤ k ∧ k ≤ 6) (ho : 0 ≤ off ∧ off + k ≤ 28) :
    Calls Tryz.prog 27 #[.string s, .int .i64 off, .int .i64 k] w fun e w' => e = .returned (.tuple #[.int .i64 (numS (s.extract off.toNat (off + k).toNat)), .int .i64 0]) ∧ Below w.heap.size w w' := by
  have hp : getB s.size off k = true := getB_t ⟨hk.1, hk.2, ho.1, by omega⟩
  have := get_any s off k w hs
  unfold getV at this
  rw [hp] at this
  exact this
theorem get_0 {s : ByteArray} (w : World) (hs : s.size ≤ maxLen) (h : 28 ≤ s.size) : Calls Tryz.prog 27 #[.string s, .int .i64 6, .int .i64 2] w fun e w' => e = .returned (.tuple #[.int .i64 (aO s), .int .i64 0]) ∧ Below w.heap.size w w' := get_k s 6 2 w hs h (by decide) (by decide)
theorem get_1 {s : ByteArray} (w : World) (hs : s.size ≤ maxLen) (h : 28 ≤ s.size) : Calls Tryz.prog 27 #[.string s, .int .i64 8, .int .i64 6] w fun e w' => e = .returned (.tuple #[.int .i64 (aFm s), .int .i64 0]) ∧ Below w.heap.size w w' := get_k s 8 6 w hs h (by decide) (by decide)
theorem get_2 {s : ByteArray} (w : World) (hs : s.size ≤ maxLen) (h : 28 ≤ s.size) : Calls Tryz.prog 27 #[.string s, .int .i64 14, .int .i64 4] w fun e w' => e = .returned (.tuple #[.int .i64 (aFi s), .int .i64 0]) ∧ Below w.heap.size w w' := get_k s 14 4 w hs h (by decide) (by decide)
theorem get_3 {s : ByteArray} (w : World) (hs : s.size ≤ maxLen) (h : 28 ≤ s.size) : Calls Tryz.prog 27 #[.string s, .int .i64 18, .int .i64 6] w fun e w' => e = .returned (.tuple #[.int .i64 (aTm s), .int .i64 0]) ∧ Below w.heap.size w w' := get_k s 18 6 w hs h (by decide) (by decide)
theorem get_4 {s : ByteArray} (w : World) (hs : s.size ≤ maxLen) (h : 28 ≤ s.size) : Calls Tryz.prog 27 #[.string s, .int .i64 24, .int .i64 4] w fun e w' => e = .returned (.tuple #[.int .i64 (aTi s), .int .i64 0]) ∧ Below w.heap.size w w' := get_k s 24 4 w hs h (by decide) (by decide)

set_option maxHeartbeats 1000000 in
theorem dec_n1 {s : ByteArray} (h : s.size < 28 ∨ 46 < s.size ∨ (28 ≤ s.size ∧ s.size ≤ 46) ∧ preB s = false) (w : World) (hs : s.size ≤ maxLen) :
    Calls Tryz.prog 28 #[.string s] w fun e w' => e = .returned (.tuple #[.agg #[.int .i64 0, .int .i64 0, .int .i64 0, .int .i64 0, .int .i64 0], .int .i64 40]) ∧ Below w.heap.size w w' := by
  have hm := hs
  unfold maxLen at hs
  have hl := bel1 w (.cells #[.int .i64 0, .int .i64 0, .int .i64 0, .int .i64 0, .int .i64 0] 26)
  rcases h with h | h | ⟨⟨h, h2⟩, q⟩
  all_goals
    go_enter Tryz.func28, Tryz.ntmps28
    go_wp2_with (first | (go_at_call 58; refine (pre_any _ _ hm h).mono ?_; rw [q]; rintro e w' ⟨rfl, rfl⟩))
    exact bodyPost_ret (v := .tuple #[.agg #[.int .i64 0, .int .i64 0, .int .i64 0, .int .i64 0, .int .i64 0], .int .i64 40]) (by simp [results, Tryz.results28, go_sem]) rfl ⟨rfl, hl⟩

set_option maxHeartbeats 1000000 in
theorem dec_n2 {s : ByteArray} (h : 28 ≤ s.size) (h2 : s.size ≤ 46) (q : preB s = true) (g : mayS s = false) (w : World) :
    Calls Tryz.prog 28 #[.string s] w fun e w' => e = .returned (.tuple #[.agg #[.int .i64 0, .int .i64 0, .int .i64 0, .int .i64 0, .int .i64 0], .int .i64 40]) ∧ Below w.heap.size w w' := by
  have hm : s.size ≤ maxLen := by unfold maxLen; omega
  have hl := bel1 w (.cells #[.int .i64 0, .int .i64 0, .int .i64 0, .int .i64 0, .int .i64 0] 26)
  have hR := At.box w #[.int .i64 0, .int .i64 0, .int .i64 0, .int .i64 0, .int .i64 0] 26
  go_enter Tryz.func28, Tryz.ntmps28
  go_wp2_with fail
  refine (pre_any _ _ hm h).mono ?_
  rw [q]
  rintro e w0 ⟨rfl, rfl⟩
  go_wp2_with fail
  refine (get_0 _ hm h).mono ?_
  rintro e w1 ⟨rfl, hb⟩
  have hl := bt hl hb
  have hR := hR.later hb
  clear hb
  go_wp2_with fail
  refine (get_1 _ hm h).mono ?_
  rintro e w2 ⟨rfl, hb⟩
  have hl := bt hl hb
  have hR := hR.later hb
  clear hb
  go_wp2_with fail
  refine (get_2 _ hm h).mono ?_
  rintro e w3 ⟨rfl, hb⟩
  have hl := bt hl hb
  have hR := hR.later hb
  clear hb
  go_wp2_with fail
  refine (get_3 _ hm h).mono ?_
  rintro e w4 ⟨rfl, hb⟩
  have hl := bt hl hb
  have hR := hR.later hb
  clear hb
  go_wp2_with fail
  refine (get_4 _ hm h).mono ?_
  rintro e w5 ⟨rfl, hb⟩
  have hl := bt hl hb
  have hR := hR.later hb
  clear hb
  go_wp2_with fail
  refine (ckd_f g _).mono ?_
  rintro e w6 ⟨rfl, hb⟩
  have hl := bt hl hb
  obtain ⟨⟨r0, r1, r2, r3, r4⟩, ⟨f0, f1, f2, f3, f4⟩, hlt⟩ := (hR.later hb).five
  clear hR hb
  go_wp2
  exact bodyPost_ret (v := .tuple #[.agg #[.int .i64 0, .int .i64 0, .int .i64 0, .int .i64 0, .int .i64 0], .int .i64 40]) (by simp [results, Tryz.results28, go_sem, r0, r1, r2, r3, r4]) rfl ⟨rfl, below5 hl (Nat.le_refl _) _ _ _ _ _⟩

set_option maxHeartbeats 1000000 in
theorem dec_y0 {s : ByteArray} (h : 28 ≤ s.size) (h2 : s.size ≤ 46) (q : preB s = true) (g : mayS s = true) (w : World) :
    Calls Tryz.prog 28 #[.string s] w fun e w' => e = .returned (.tuple #[.agg #[.int .i64 (aO s), .int .i64 (aFm s), .int .i64 (aFi s), .int .i64 (aTm s), .int .i64 (aTi s)], .int .i64 0]) ∧ Below w.heap.size w w' := by
  have hm : s.size ≤ maxLen := by unfold maxLen; omega
  have hl := bel1 w (.cells #[.int .i64 0, .int .i64 0, .int .i64 0, .int .i64 0, .int .i64 0] 26)
  have hR := At.box w #[.int .i64 0, .int .i64 0, .int .i64 0, .int .i64 0, .int .i64 0] 26
  go_enter Tryz.func28, Tryz.ntmps28
  go_wp2_with fail
  refine (pre_any _ _ hm h).mono ?_
  rw [q]
  rintro e w0 ⟨rfl, rfl⟩
  go_wp2_with fail
  refine (get_0 _ hm h).mono ?_
  rintro e w1 ⟨rfl, hb⟩
  have hl := bt hl hb
  have hR := hR.later hb
  clear hb
  go_wp2_with fail
  refine (get_1 _ hm h).mono ?_
  rintro e w2 ⟨rfl, hb⟩
  have hl := bt hl hb
  have hR := hR.later hb
  clear hb
  go_wp2_with fail
  refine (get_2 _ hm h).mono ?_
  rintro e w3 ⟨rfl, hb⟩
  have hl := bt hl hb
  have hR := hR.later hb
  clear hb
  go_wp2_with fail
  refine (get_3 _ hm h).mono ?_
  rintro e w4 ⟨rfl, hb⟩
  have hl := bt hl hb
  have hR := hR.later hb
  clear hb
  go_wp2_with fail
  refine (get_4 _ hm h).mono ?_
  rintro e w5 ⟨rfl, hb⟩
  have hl := bt hl hb
  have hR := hR.later hb
  clear hb
  go_wp2_with fail
  refine (ckd_t g _).mono ?_
  rintro e w6 ⟨rfl, hb⟩
  have hl := bt hl hb
  obtain ⟨⟨r0, r1, r2, r3, r4⟩, ⟨f0, f1, f2, f3, f4⟩, hlt⟩ := (hR.later hb).five
  clear hR hb
  go_wp2
  exact bodyPost_ret (v := .tuple #[.agg #[.int .i64 (aO s), .int .i64 (aFm s), .int .i64 (aFi s), .int .i64 (aTm s), .int .i64 (aTi s)], .int .i64 0]) (by simp [results, Tryz.results28, go_sem, r0, r1, r2, r3, r4]) rfl ⟨rfl, below5 hl (Nat.le_refl _) _ _ _ _ _⟩

theorem dec_n {s : ByteArray} (h : decA s = false) (w : World) (hs : s.size ≤ maxLen) :
    Calls Tryz.prog 28 #[.string s] w fun e w' => e = .returned (.tuple #[.agg #[.int .i64 0, .int .i64 0, .int .i64 0, .int .i64 0, .int .i64 0], .int .i64 40]) ∧ Below w.heap.size w w' := by
  rcases decA_ways s with ⟨-, a⟩ | ⟨-, a⟩ | ⟨a, ⟨-, b⟩ | ⟨b, ⟨-, c⟩ | ⟨c, -⟩⟩⟩
  · exact dec_n1 (.inl a) w hs
  · exact dec_n1 (.inr (.inl a)) w hs
  · exact dec_n1 (.inr (.inr ⟨a, b⟩)) w hs
  · exact dec_n2 a.1 a.2 b c w
  · rw [h] at c; cases c
theorem decA_parts {s : ByteArray} (h : decA s = true) : 28 ≤ s.size ∧ s.size ≤ 46 ∧ preB s = true ∧ mayS s = true := by
  rcases decA_ways s with ⟨a, -⟩ | ⟨a, -⟩ | ⟨a, ⟨c, -⟩ | ⟨b, ⟨c, -⟩ | ⟨-, c⟩⟩⟩
  · rw [h] at a; cases a
  · rw [h] at a; cases a
  · rw [h] at c; cases c
  · rw [h] at c; cases c
  · exact ⟨a.1, a.2, b, c⟩
theorem dec_y {s : ByteArray} (h : decA s = true) (w : World) :
    Calls Tryz.prog 28 #[.string s] w fun e w' => e = .returned (.tuple #[.agg #[.int .i64 (aO s), .int .i64 (aFm s), .int .i64 (aFi s), .int .i64 (aTm s), .int .i64 (aTi s)], .int .i64 0]) ∧ Below w.heap.size w w' := by
  obtain ⟨a, b, c, d⟩ := decA_parts h
  exact dec_y0 a b c d w
end Go.Proofs.YtkpdmgoldngdaabGreatDoor.Eth.Arp
