/- the texts EFrames, EChecks, EEncodes, EDecodes, in part, merged by program -/
import Derived.Test.YtkpdmgoldngdaaaGreatDoorRows
import Derived.WalkKit
import Derived.WalkSpells
import Derived.Deep.RegionHeld3
import Derived.Test.YtkpdmgoldngdaaaGreatDoorMA01
namespace Go.Proofs.YtkpdmgoldngdaaaGreatDoor.Eth
open Go.RowKit
set_option maxRecDepth 100000

def macB (n : Int) : Bool := decide (0 ≤ n ∧ n ≤ 281474976710655)
def grpB (n : Int) : Bool := decide (n / 1099511627776 % 2 = 1)
def mayB (t f k : Int) (z : Nat) : Bool := decide ((0 ≤ t ∧ t ≤ 281474976710655) ∧ (0 ≤ f ∧ f ≤ 281474976710655) ∧ f / 1099511627776 % 2 = 0 ∧ (1536 ≤ k ∧ k ≤ 65535) ∧ z ≤ 1500)
def codeE (b : Bool) : Int := if b = true then 0 else 30
theorem macB_t {n : Int} (h : 0 ≤ n ∧ n ≤ 281474976710655) : macB n = true := decide_eq_true h
theorem macB_f {n : Int} (h : ¬ (0 ≤ n ∧ n ≤ 281474976710655)) : macB n = false := decide_eq_false h
theorem grpB_t {n : Int} (h : n / 1099511627776 % 2 = 1) : grpB n = true := decide_eq_true h
theorem grpB_f {n : Int} (h : n / 1099511627776 % 2 = 0) : grpB n = false := decide_eq_false (by omega)
theorem mayB_t {t f k : Int} {z : Nat} (h : (0 ≤ t ∧ t ≤ 281474976710655) ∧ (0 ≤ f ∧ f ≤ 281474976710655) ∧ f / 1099511627776 % 2 = 0 ∧ (1536 ≤ k ∧ k ≤ 65535) ∧ z ≤ 1500) : mayB t f k z = true := decide_eq_true h
theorem mayB_f {t f k : Int} {z : Nat} (h : ¬ ((0 ≤ t ∧ t ≤ 281474976710655) ∧ (0 ≤ f ∧ f ≤ 281474976710655) ∧ f / 1099511627776 % 2 = 0 ∧ (1536 ≤ k ∧ k ≤ 65535) ∧ z ≤ 1500)) : mayB t f k z = false := decide_eq_false h

theorem and_group (n : Int) (h0 : 0 ≤ n) (h1 : n ≤ 281474976710655) : bits .and .i64 n 1099511627776 = n / 1099511627776 % 2 * 1099511627776 := by
  obtain ⟨N, rfl⟩ := Int.eq_ofNat_of_zero_le h0
  show IntKind.i64.wrap ((BitVec.ofInt 64 (N : Int) &&& BitVec.ofInt 64 1099511627776).toNat : Nat) = _
  have e : (BitVec.ofInt 64 1099511627776).toNat = 2 ^ 40 := by decide
  rw [BitVec.toNat_and, ofInt_u64 _ (by omega), e]
  have k : N &&& 2 ^ 40 = N / 2 ^ 40 % 2 * 2 ^ 40 := by
    apply Nat.eq_of_testBit_eq
    intro i
    rw [Nat.testBit_and, Nat.testBit_two_pow, Nat.testBit_mul_two_pow]
    by_cases h : i = 40
    · subst h
      simp [Nat.testBit_eq_decide_div_mod_eq]
    · rw [show decide (40 = i) = false from decide_eq_false (Ne.symm h), Bool.and_false]
      by_cases g : 40 ≤ i
      · obtain ⟨j, hj⟩ : ∃ j, i - 40 = j + 1 := ⟨i - 41, by omega⟩
        rw [hj, Nat.testBit_succ, show N / 2 ^ 40 % 2 / 2 = 0 by omega, Nat.zero_testBit, Bool.and_false]
      · simp [g]
  rw [k, IntKind.wrap_i64]
  omega

theorem isaddr_any (n : Int) (w : World) :
    Calls Tryz.prog 102 #[.int .i64 n] w fun e w' => e = .returned (.bool (macB n)) ∧ w' = w := by
  unfold macB
  by_cases h : 0 ≤ n
  · go_enter Tryz.func102, Tryz.ntmps102
    go_wp2
    go_ret
    exact ⟨by simp [h], rfl⟩
  · go_enter Tryz.func102, Tryz.ntmps102
    go_wp2
    go_ret
    exact ⟨by simp; omega, rfl⟩

theorem ingroup_any (n : Int) (w : World) (h0 : 0 ≤ n) (h1 : n ≤ 281474976710655) :
    Calls Tryz.prog 103 #[.int .i64 n] w fun e w' => e = .returned (.bool (grpB n)) ∧ w' = w := by
  unfold grpB
  have ha := and_group n h0 h1
  go_enter Tryz.func103, Tryz.ntmps103
  go_wp2
  go_ret
  have h2 : n / 1099511627776 % 2 = 0 ∨ n / 1099511627776 % 2 = 1 := by omega
  exact ⟨by rcases h2 with h | h <;> rw [h] <;> rfl, rfl⟩

end Go.Proofs.YtkpdmgoldngdaaaGreatDoor.Eth

namespace Go.Proofs.YtkpdmgoldngdaaaGreatDoor.Eth
open Go.RowKit
set_option maxRecDepth 100000

theorem may_ways (t f k : Int) (z : Nat) :
    (mayB t f k z = false ∧ macB t = false) ∨ (mayB t f k z = false ∧ macB t = true ∧ macB f = false) ∨ (mayB t f k z = false ∧ macB t = true ∧ macB f = true ∧ (0 ≤ f ∧ f ≤ 281474976710655) ∧ grpB f = true) ∨
    (mayB t f k z = false ∧ macB t = true ∧ macB f = true ∧ (0 ≤ f ∧ f ≤ 281474976710655) ∧ grpB f = false ∧ k < 1536) ∨ (mayB t f k z = false ∧ macB t = true ∧ macB f = true ∧ (0 ≤ f ∧ f ≤ 281474976710655) ∧ grpB f = false ∧ 1536 ≤ k ∧ 65535 < k) ∨
    (mayB t f k z = false ∧ macB t = true ∧ macB f = true ∧ (0 ≤ f ∧ f ≤ 281474976710655) ∧ grpB f = false ∧ 1536 ≤ k ∧ k ≤ 65535 ∧ 1500 < z) ∨
    (mayB t f k z = true ∧ macB t = true ∧ macB f = true ∧ (0 ≤ f ∧ f ≤ 281474976710655) ∧ grpB f = false ∧ 1536 ≤ k ∧ k ≤ 65535 ∧ z ≤ 1500) := by
  by_cases ht : 0 ≤ t ∧ t ≤ 281474976710655
  · by_cases hf : 0 ≤ f ∧ f ≤ 281474976710655
    · by_cases hg : f / 1099511627776 % 2 = 0
      · by_cases h1 : 1536 ≤ k
        · by_cases h2 : k ≤ 65535
          · by_cases h3 : z ≤ 1500
            · exact Or.inr (Or.inr (Or.inr (Or.inr (Or.inr (Or.inr ⟨mayB_t ⟨ht, hf, hg, ⟨h1, h2⟩, h3⟩, macB_t ht, macB_t hf, hf, grpB_f hg, h1, h2, h3⟩)))))
            · exact Or.inr (Or.inr (Or.inr (Or.inr (Or.inr (Or.inl ⟨mayB_f (fun h => h3 h.2.2.2.2), macB_t ht, macB_t hf, hf, grpB_f hg, h1, h2, Nat.lt_of_not_le h3⟩)))))
          · exact Or.inr (Or.inr (Or.inr (Or.inr (Or.inl ⟨mayB_f (fun h => h2 h.2.2.2.1.2), macB_t ht, macB_t hf, hf, grpB_f hg, h1, Int.lt_of_not_ge h2⟩))))
        · exact Or.inr (Or.inr (Or.inr (Or.inl ⟨mayB_f (fun h => h1 h.2.2.2.1.1), macB_t ht, macB_t hf, hf, grpB_f hg, Int.lt_of_not_ge h1⟩)))
      · exact Or.inr (Or.inr (Or.inl ⟨mayB_f (fun h => hg h.2.2.1), macB_t ht, macB_t hf, hf, grpB_t (by omega)⟩))
    · exact Or.inr (Or.inl ⟨mayB_f (fun h => hf h.2.1), macB_t ht, macB_f hf⟩)
  · exact Or.inl ⟨mayB_f (fun h => ht h.1), macB_f ht⟩

theorem bel1 (w : World) (o : Obj) : Below w.heap.size w (w.alloc o) := (Below.refl _ _).alloc (Nat.le_refl _) o

theorem may_any (t f k : Int) (d : ByteArray) (w : World) (hd : d.size ≤ maxLen) :
    Calls Tryz.prog 58 #[.agg #[.int .i64 t, .int .i64 f, .int .i64 k, .string d]] w fun e w' => e = .returned (.bool (mayB t f k d.size)) ∧ Below w.heap.size w w' := by
  unfold maxLen at hd
  have hbel := bel1 w
  rcases may_ways t f k d.size with ⟨h, m1⟩ | ⟨h, m1, m2⟩ | ⟨h, m1, m2, ⟨f0, f1⟩, g⟩ | ⟨h, m1, m2, ⟨f0, f1⟩, g, k1⟩ | ⟨h, m1, m2, ⟨f0, f1⟩, g, k1, k2⟩ | ⟨h, m1, m2, ⟨f0, f1⟩, g, k1, k2, z⟩ | ⟨h, m1, m2, ⟨f0, f1⟩, g, k1, k2, z⟩
  all_goals
    rw [h]; clear h
    go_enter Tryz.func58, Tryz.ntmps58
    go_wp2_with (first | (go_at_call 102; refine (isaddr_any _ _).mono ?_; rintro e w' ⟨rfl, rfl⟩) | (go_at_call 103; refine (ingroup_any _ _ (by assumption) (by assumption)).mono ?_; rintro e w' ⟨rfl, rfl⟩))
    go_ret
    first | exact ⟨rfl, hbel _⟩ | exact ⟨by simp; omega, hbel _⟩

end Go.Proofs.YtkpdmgoldngdaaaGreatDoor.Eth

namespace Go.Proofs.YtkpdmgoldngdaaaGreatDoor.Eth
open Go.RowKit
set_option maxRecDepth 100000

theorem later {w x : World} {a : Addr} {v : Value} (hb : Below w.heap.size w x) (h : w.cell? a = some v) : x.cell? a = some v := (hb.cell (World.block_lt_of_cell? _ _ h)).trans h
theorem box4 (w : World) (v0 v1 v2 v3 : Value) (t : TypeId) : (w.alloc (.cells #[v0, v1, v2, v3] t)).cell? ⟨w.heap.size, 0, none⟩ = some v0 ∧ (w.alloc (.cells #[v0, v1, v2, v3] t)).cell? ⟨w.heap.size, 1, none⟩ = some v1 ∧
    (w.alloc (.cells #[v0, v1, v2, v3] t)).cell? ⟨w.heap.size, 2, none⟩ = some v2 ∧ (w.alloc (.cells #[v0, v1, v2, v3] t)).cell? ⟨w.heap.size, 3, none⟩ = some v3 := by
  refine ⟨?_, ?_, ?_, ?_⟩ <;> simp [World.cell?_alloc_new]

end Go.Proofs.YtkpdmgoldngdaaaGreatDoor.Eth

namespace Go.Proofs.YtkpdmgoldngdaaaGreatDoor.Eth
open Go.RowKit
set_option maxRecDepth 100000

def dT (s : ByteArray) : Int := numS (s.extract 0 6)
def dF (s : ByteArray) : Int := numS (s.extract 6 12)
def dK (s : ByteArray) : Int := numS (s.extract 12 14)
def dD (s : ByteArray) : ByteArray := s.extract 14 s.size
def decB (s : ByteArray) : Bool := if 14 ≤ s.size then mayB (dT s) (dF s) (dK s) (dD s).size else false
def deT (s : ByteArray) : Int := if decB s = true then dT s else 0
def deF (s : ByteArray) : Int := if decB s = true then dF s else 0
def deK (s : ByteArray) : Int := if decB s = true then dK s else 0
def deD (s : ByteArray) : ByteArray := if decB s = true then dD s else ⟨#[]⟩

def At4 (W : World) (b : Nat) (v0 v1 v2 v3 : Value) : Prop :=
  (W.cell? ⟨b, 0, none⟩ = some v0 ∧ W.cell? ⟨b, 1, none⟩ = some v1 ∧ W.cell? ⟨b, 2, none⟩ = some v2 ∧ W.cell? ⟨b, 3, none⟩ = some v3) ∧
  (W.frozen? ⟨b, 0, none⟩ = false ∧ W.frozen? ⟨b, 1, none⟩ = false ∧ W.frozen? ⟨b, 2, none⟩ = false ∧ W.frozen? ⟨b, 3, none⟩ = false) ∧ b < W.heap.size
theorem at_box (w : World) (v0 v1 v2 v3 : Value) (t : TypeId) : At4 (w.alloc (.cells #[v0, v1, v2, v3] t)) w.heap.size v0 v1 v2 v3 :=
  ⟨box4 w v0 v1 v2 v3 t, by refine ⟨?_, ?_, ?_, ?_⟩ <;> (rw [frozen?_alloc_cells]; simp [World.frozen?]), by simp⟩
theorem At4.later {W x : World} {b : Nat} {v0 v1 v2 v3 : Value} (h : At4 W b v0 v1 v2 v3) (hb : Below W.heap.size W x) : At4 x b v0 v1 v2 v3 :=
  ⟨⟨YtkpdmgoldngdaaaGreatDoor.Eth.later hb h.1.1, YtkpdmgoldngdaaaGreatDoor.Eth.later hb h.1.2.1, YtkpdmgoldngdaaaGreatDoor.Eth.later hb h.1.2.2.1, YtkpdmgoldngdaaaGreatDoor.Eth.later hb h.1.2.2.2⟩,
   ⟨(hb.frozen (p := ⟨b, 0, none⟩) h.2.2).trans h.2.1.1, (hb.frozen (p := ⟨b, 1, none⟩) h.2.2).trans h.2.1.2.1, (hb.frozen (p := ⟨b, 2, none⟩) h.2.2).trans h.2.1.2.2.1, (hb.frozen (p := ⟨b, 3, none⟩) h.2.2).trans h.2.1.2.2.2⟩, Nat.lt_of_lt_of_le h.2.2 hb.size⟩

theorem dD_size (s : ByteArray) : (dD s).size = s.size - 14 := by unfold dD; rw [ByteArray.size_extract]; omega
theorem get_to (s : ByteArray) (w : World) (hs : s.size ≤ maxLen) (h : 14 ≤ s.size) :
    Calls Tryz.prog 59 #[.string s, .int .i64 0, .int .i64 6] w fun e w' => e = .returned (.tuple #[.int .i64 (dT s), .int .i64 0]) ∧ Below w.heap.size w w' := by
  have hp : getB s.size 0 6 = true := getB_t ⟨by decide, by decide, by decide, by omega⟩
  have := get_any s 0 6 w hs
  unfold getV at this
  rw [hp] at this
  exact this
theorem get_from (s : ByteArray) (w : World) (hs : s.size ≤ maxLen) (h : 14 ≤ s.size) :
    Calls Tryz.prog 59 #[.string s, .int .i64 6, .int .i64 6] w fun e w' => e = .returned (.tuple #[.int .i64 (dF s), .int .i64 0]) ∧ Below w.heap.size w w' := by
  have hp : getB s.size 6 6 = true := getB_t ⟨by decide, by decide, by decide, by omega⟩
  have := get_any s 6 6 w hs
  unfold getV at this
  rw [hp] at this
  exact this
theorem get_kind (s : ByteArray) (w : World) (hs : s.size ≤ maxLen) (h : 14 ≤ s.size) :
    Calls Tryz.prog 59 #[.string s, .int .i64 12, .int .i64 2] w fun e w' => e = .returned (.tuple #[.int .i64 (dK s), .int .i64 0]) ∧ Below w.heap.size w w' := by
  have hp : getB s.size 12 2 = true := getB_t ⟨by decide, by decide, by decide, by omega⟩
  have := get_any s 12 2 w hs
  unfold getV at this
  rw [hp] at this
  exact this

set_option maxHeartbeats 1000000 in
theorem dec_any (s : ByteArray) (w : World) (hs : s.size ≤ maxLen) :
    Calls Tryz.prog 26 #[.string s] w fun e w' => e = .returned (.tuple #[.agg #[.int .i64 (deT s), .int .i64 (deF s), .int .i64 (deK s), .string (deD s)], .int .i64 (codeE (decB s))]) ∧ Below w.heap.size w w' := by
  have hm := hs
  unfold maxLen at hs
  unfold deT deF deK deD
  by_cases h : 14 ≤ s.size
  · have hz := dD_size s
    have hdm : (dD s).size ≤ maxLen := by rw [hz]; unfold maxLen; omega
    clear hz
    have hr0 := at_box w (.int .i64 0) (.int .i64 0) (.int .i64 0) (.string ⟨#[]⟩) 23
    have hl0 := bel1 w (.cells #[.int .i64 0, .int .i64 0, .int .i64 0, .string ⟨#[]⟩] 23)
    have hsl : ∀ W, (Instr.slice 9 (.string s) (some (.int .i64 14)) none none).run Tryz.prog W = .ok (.string (dD s)) W := fun W => by
      rw [run_slice_string_from_if W 9 s .i64 14 Tryz.underlying9, if_pos ⟨by omega, by omega⟩]; rfl
    rcases Bool.eq_false_or_eq_true (mayB (dT s) (dF s) (dK s) (dD s).size) with g | g
    · have hB : decB s = true := by unfold decB; rw [if_pos h, g]
      rw [hB, if_pos rfl, if_pos rfl, if_pos rfl, if_pos rfl]
      clear hB
      go_enter Tryz.func26, Tryz.ntmps26
      go_wp2_with fail
      refine (get_to _ _ hm h).mono ?_
      rintro e w1 ⟨rfl, hb1⟩
      go_wp2_with fail
      refine (get_from _ _ hm h).mono ?_
      rintro e w2 ⟨rfl, hb2⟩
      go_wp2_with fail
      refine (get_kind _ _ hm h).mono ?_
      rintro e w3 ⟨rfl, hb3⟩
      go_wp2_with fail
      refine (may_any _ _ _ _ _ hdm).mono ?_
      rintro e w4 ⟨rfl, hb4⟩
      obtain ⟨⟨r0, r1, r2, r3⟩, ⟨f0, f1, f2, f3⟩, hlt⟩ := (((hr0.later hb1).later hb2).later hb3).later (bt (bel1 w3 _) hb4)
      obtain ⟨⟨c0, c1, c2, c3⟩, -, -⟩ := (at_box w3 (.int .i64 (dT s)) (.int .i64 (dF s)) (.int .i64 (dK s)) (.string (dD s)) 23).later hb4
      have hbl := bt (bt (bt (bt hl0 hb1) hb2) hb3) (bt (bel1 w3 _) hb4)
      clear hr0 hl0 hb1 hb2 hb3 hb4 hsl
      generalize w3.heap.size = b3 at *
      go_wp2
      exact bodyPost_ret (v := .tuple #[.agg #[.int .i64 (dT s), .int .i64 (dF s), .int .i64 (dK s), .string (dD s)], .int .i64 0]) (by simp [results, Tryz.results26, go_sem, r0, r1, r2, r3]) rfl ⟨rfl, (((hbl.setCell (Nat.le_refl _) _).setCell (Nat.le_refl _) _).setCell (Nat.le_refl _) _).setCell (Nat.le_refl _) _⟩
    · have hB : decB s = false := by unfold decB; rw [if_pos h, g]
      rw [hB, if_neg (by simp), if_neg (by simp), if_neg (by simp), if_neg (by simp)]
      clear hB
      go_enter Tryz.func26, Tryz.ntmps26
      go_wp2_with fail
      refine (get_to _ _ hm h).mono ?_
      rintro e w1 ⟨rfl, hb1⟩
      go_wp2_with fail
      refine (get_from _ _ hm h).mono ?_
      rintro e w2 ⟨rfl, hb2⟩
      go_wp2_with fail
      refine (get_kind _ _ hm h).mono ?_
      rintro e w3 ⟨rfl, hb3⟩
      go_wp2_with fail
      refine (may_any _ _ _ _ _ hdm).mono ?_
      rintro e w4 ⟨rfl, hb4⟩
      obtain ⟨⟨r0, r1, r2, r3⟩, ⟨f0, f1, f2, f3⟩, hlt⟩ := (((hr0.later hb1).later hb2).later hb3).later (bt (bel1 w3 _) hb4)
      have hbl := bt (bt (bt (bt hl0 hb1) hb2) hb3) (bt (bel1 w3 _) hb4)
      clear hr0 hl0 hb1 hb2 hb3 hb4 hsl
      generalize w3.heap.size = b3 at *
      go_wp2
      exact bodyPost_ret (v := .tuple #[.agg #[.int .i64 0, .int .i64 0, .int .i64 0, .string ⟨#[]⟩], .int .i64 30]) (by simp [results, Tryz.results26, go_sem, r0, r1, r2, r3]) rfl ⟨rfl, (((hbl.setCell (Nat.le_refl _) _).setCell (Nat.le_refl _) _).setCell (Nat.le_refl _) _).setCell (Nat.le_refl _) _⟩
  · have hB : decB s = false := by unfold decB; rw [if_neg h]
    rw [hB, if_neg (by simp), if_neg (by simp), if_neg (by simp), if_neg (by simp)]
    clear hB
    have hr0 := at_box w (.int .i64 0) (.int .i64 0) (.int .i64 0) (.string ⟨#[]⟩) 23
    have hl0 := bel1 w (.cells #[.int .i64 0, .int .i64 0, .int .i64 0, .string ⟨#[]⟩] 23)
    go_enter Tryz.func26, Tryz.ntmps26
    go_wp2
    exact bodyPost_ret (v := .tuple #[.agg #[.int .i64 0, .int .i64 0, .int .i64 0, .string ⟨#[]⟩], .int .i64 30]) (by simp [results, Tryz.results26, go_sem]) rfl ⟨rfl, hl0⟩
end Go.Proofs.YtkpdmgoldngdaaaGreatDoor.Eth
