/- the texts EFrames, EChecks, Arps, EEncodes, EDecodes, EBacks, EFors, in part, merged by program -/
import Derived.Test.YthjbmloemmggaaaGreatDoorRows
import Derived.WalkKit
import Derived.WalkSpells
import Derived.Deep.RegionHeld3
import Derived.Deep.QuietTactic
import Derived.BigQuiet
import Derived.Test.YthjbmloemmggaaaGreatDoorMA01
namespace Go.Proofs.YthjbmloemmggaaaGreatDoor.Eth
open Go.RowKit
set_option maxRecDepth 100000

def macB (n : Int) : Bool := decide (0 ≤ n ∧ n ≤ 281474976710655)
def grpB (n : Int) : Bool := decide (n / 1099511627776 % 2 = 1)
def mayB (t f k : Int) (z : Nat) : Bool := decide ((0 ≤ t ∧ t ≤ 281474976710655) ∧ (0 ≤ f ∧ f ≤ 281474976710655) ∧ f / 1099511627776 % 2 = 0 ∧ (1536 ≤ k ∧ k ≤ 65535) ∧ z ≤ 1500)
def codeE (b : Bool) : Int := if b = true then 0 else 30
def encS (t f k : Int) (d : ByteArray) : ByteArray := txt t 6 ++ txt f 6 ++ txt k 2 ++ d
def encV (t f k : Int) (d : ByteArray) : ByteArray := if mayB t f k d.size = true then encS t f k d else noS

theorem macB_t {n : Int} (h : 0 ≤ n ∧ n ≤ 281474976710655) : macB n = true := decide_eq_true h
theorem macB_f {n : Int} (h : ¬ (0 ≤ n ∧ n ≤ 281474976710655)) : macB n = false := decide_eq_false h
theorem grpB_t {n : Int} (h : n / 1099511627776 % 2 = 1) : grpB n = true := decide_eq_true h
theorem grpB_f {n : Int} (h : n / 1099511627776 % 2 = 0) : grpB n = false := decide_eq_false (by omega)
theorem mayB_t {t f k : Int} {z : Nat} (h : (0 ≤ t ∧ t ≤ 281474976710655) ∧ (0 ≤ f ∧ f ≤ 281474976710655) ∧ f / 1099511627776 % 2 = 0 ∧ (1536 ≤ k ∧ k ≤ 65535) ∧ z ≤ 1500) : mayB t f k z = true := decide_eq_true h
theorem mayB_f {t f k : Int} {z : Nat} (h : ¬ ((0 ≤ t ∧ t ≤ 281474976710655) ∧ (0 ≤ f ∧ f ≤ 281474976710655) ∧ f / 1099511627776 % 2 = 0 ∧ (1536 ≤ k ∧ k ≤ 65535) ∧ z ≤ 1500)) : mayB t f k z = false := decide_eq_false h

theorem and_group (n : Int) (h0 : 0 ≤ n) (h1 : n ≤ 281474976710655) : bits .and .i64 n 1099511627776 = n / 1099511627776 % 2 * 1099511627776 := by
  obtain ⟨N, rfl⟩ := Int.eq_ofNat_of_zero_le h0
  show IntKind.i64.wrap ((BitVec.ofInt 64 (N : Int) &&& BitVec.ofInt 64 1099511627776).toNat : Nat) = _
  have e : (BitVec.ofInt 64 1099511627776).toNat = 2 ^ 40 := by decide
  rw [BitVec.toNat_and, ofInt_u64 _ (by omega), e]
  have k : N &&& 2 ^ 40 = N / 2 ^ 40 % 2 * 2 ^ 40 := by
    apply Nat.eq_of_testBit_eq
    intro i
    rw [Nat.testBit_and, Nat.testBit_two_pow, Nat.testBit_mul_two_pow]
    by_cases h : i = 40
    · subst h
      simp [Nat.testBit_eq_decide_div_mod_eq]
    · rw [show decide (40 = i) = false from decide_eq_false (Ne.symm h), Bool.and_false]
      by_cases g : 40 ≤ i
      · obtain ⟨j, hj⟩ : ∃ j, i - 40 = j + 1 := ⟨i - 41, by omega⟩
        rw [hj, Nat.testBit_succ, show N / 2 ^ 40 % 2 / 2 = 0 by omega, Nat.zero_testBit, Bool.and_false]
      · simp [g]
  rw [k, IntKind.wrap_i64]
  omega

theorem isaddr_any (n : Int) (w : World) :
    Calls Tryz.prog 44 #[.int .i64 n] w fun e w' => e = .returned (.bool (macB n)) ∧ w' = w := by
  unfold macB
  by_cases h : 0 ≤ n
  · go_enter Tryz.func44, Tryz.ntmps44
    go_wp2
    go_ret
    exact ⟨by simp [h], rfl⟩
  · go_enter Tryz.func44, Tryz.ntmps44
    go_wp2
    go_ret
    exact ⟨by simp; omega, rfl⟩

theorem ingroup_any (n : Int) (w : World) (h0 : 0 ≤ n) (h1 : n ≤ 281474976710655) :
    Calls Tryz.prog 45 #[.int .i64 n] w fun e w' => e = .returned (.bool (grpB n)) ∧ w' = w := by
  unfold grpB
  have ha := and_group n h0 h1
  go_enter Tryz.func45, Tryz.ntmps45
  go_wp2
  go_ret
  have h2 : n / 1099511627776 % 2 = 0 ∨ n / 1099511627776 % 2 = 1 := by omega
  exact ⟨by rcases h2 with h | h <;> rw [h] <;> rfl, rfl⟩

end Go.Proofs.YthjbmloemmggaaaGreatDoor.Eth

namespace Go.Proofs.YthjbmloemmggaaaGreatDoor.Eth
open Go.RowKit
set_option maxRecDepth 100000

theorem may_ways (t f k : Int) (z : Nat) :
    (mayB t f k z = false ∧ macB t = false) ∨ (mayB t f k z = false ∧ macB t = true ∧ macB f = false) ∨ (mayB t f k z = false ∧ macB t = true ∧ macB f = true ∧ (0 ≤ f ∧ f ≤ 281474976710655) ∧ grpB f = true) ∨
    (mayB t f k z = false ∧ macB t = true ∧ macB f = true ∧ (0 ≤ f ∧ f ≤ 281474976710655) ∧ grpB f = false ∧ k < 1536) ∨ (mayB t f k z = false ∧ macB t = true ∧ macB f = true ∧ (0 ≤ f ∧ f ≤ 281474976710655) ∧ grpB f = false ∧ 1536 ≤ k ∧ 65535 < k) ∨
    (mayB t f k z = false ∧ macB t = true ∧ macB f = true ∧ (0 ≤ f ∧ f ≤ 281474976710655) ∧ grpB f = false ∧ 1536 ≤ k ∧ k ≤ 65535 ∧ 1500 < z) ∨
    (mayB t f k z = true ∧ macB t = true ∧ macB f = true ∧ (0 ≤ f ∧ f ≤ 281474976710655) ∧ grpB f = false ∧ 1536 ≤ k ∧ k ≤ 65535 ∧ z ≤ 1500) := by
  by_cases ht : 0 ≤ t ∧ t ≤ 281474976710655
  · by_cases hf : 0 ≤ f ∧ f ≤ 281474976710655
    · by_cases hg : f / 1099511627776 % 2 = 0
      · by_cases h1 : 1536 ≤ k
        · by_cases h2 : k ≤ 65535
          · by_cases h3 : z ≤ 1500
            · exact Or.inr (Or.inr (Or.inr (Or.inr (Or.inr (Or.inr ⟨mayB_t ⟨ht, hf, hg, ⟨h1, h2⟩, h3⟩, macB_t ht, macB_t hf, hf, grpB_f hg, h1, h2, h3⟩)))))
            · exact Or.inr (Or.inr (Or.inr (Or.inr (Or.inr (Or.inl ⟨mayB_f (fun h => h3 h.2.2.2.2), macB_t ht, macB_t hf, hf, grpB_f hg, h1, h2, Nat.lt_of_not_le h3⟩)))))
          · exact Or.inr (Or.inr (Or.inr (Or.inr (Or.inl ⟨mayB_f (fun h => h2 h.2.2.2.1.2), macB_t ht, macB_t hf, hf, grpB_f hg, h1, Int.lt_of_not_ge h2⟩))))
        · exact Or.inr (Or.inr (Or.inr (Or.inl ⟨mayB_f (fun h => h1 h.2.2.2.1.1), macB_t ht, macB_t hf, hf, grpB_f hg, Int.lt_of_not_ge h1⟩)))
      · exact Or.inr (Or.inr (Or.inl ⟨mayB_f (fun h => hg h.2.2.1), macB_t ht, macB_t hf, hf, grpB_t (by omega)⟩))
    · exact Or.inr (Or.inl ⟨mayB_f (fun h => hf h.2.1), macB_t ht, macB_f hf⟩)
  · exact Or.inl ⟨mayB_f (fun h => ht h.1), macB_f ht⟩

theorem bel1 (w : World) (o : Obj) : Below w.heap.size w (w.alloc o) := (Below.refl _ _).alloc (Nat.le_refl _) o

theorem may_any (t f k : Int) (d : ByteArray) (w : World) (hd : d.size ≤ maxLen) :
    Calls Tryz.prog 27 #[.agg #[.int .i64 t, .int .i64 f, .int .i64 k, .string d]] w fun e w' => e = .returned (.bool (mayB t f k d.size)) ∧ Below w.heap.size w w' := by
  unfold maxLen at hd
  have hbel := bel1 w
  rcases may_ways t f k d.size with ⟨h, m1⟩ | ⟨h, m1, m2⟩ | ⟨h, m1, m2, ⟨f0, f1⟩, g⟩ | ⟨h, m1, m2, ⟨f0, f1⟩, g, k1⟩ | ⟨h, m1, m2, ⟨f0, f1⟩, g, k1, k2⟩ | ⟨h, m1, m2, ⟨f0, f1⟩, g, k1, k2, z⟩ | ⟨h, m1, m2, ⟨f0, f1⟩, g, k1, k2, z⟩
  all_goals
    rw [h]; clear h
    go_enter Tryz.func27, Tryz.ntmps27
    go_wp2_with (first | (go_at_call 44; refine (isaddr_any _ _).mono ?_; rintro e w' ⟨rfl, rfl⟩) | (go_at_call 45; refine (ingroup_any _ _ (by assumption) (by assumption)).mono ?_; rintro e w' ⟨rfl, rfl⟩))
    go_ret
    first | exact ⟨rfl, hbel _⟩ | exact ⟨by simp; omega, hbel _⟩

theorem check_any (t f k : Int) (d : ByteArray) (w : World) (hd : d.size ≤ maxLen) :
    Calls Tryz.prog 20 #[.agg #[.int .i64 t, .int .i64 f, .int .i64 k, .string d]] w fun e w' => e = .returned (.int .i64 (codeE (mayB t f k d.size))) ∧ Below w.heap.size w w' := by
  rcases Bool.eq_false_or_eq_true (mayB t f k d.size) with h | h
  all_goals
    have H : Hid (mayB t f k d.size = mayB t f k d.size) := rfl
    go_enter Tryz.func20, Tryz.ntmps20
    go_wp2_with (first | (go_at_call 27; refine (may_any _ _ _ _ _ hd).mono ?_; rintro e w1 ⟨rfl, hb⟩))
    go_ret
    exact ⟨by rw [h]; rfl, bt (bel1 w _) hb⟩

theorem pgroup_any (n : Int) (w : World) :
    Calls Tryz.prog 39 #[.int .i64 n] w fun e w' => e = .returned (.tuple #[.bool (macB n && grpB n), .int .i64 (codeB (macB n))]) ∧ w' = w := by
  by_cases h : 0 ≤ n ∧ n ≤ 281474976710655
  · have m := macB_t h
    obtain ⟨h0, h1⟩ := h
    rw [m]
    go_enter Tryz.func39, Tryz.ntmps39
    go_wp2_with (first | (go_at_call 44; refine (isaddr_any _ _).mono ?_; rintro e w' ⟨rfl, rfl⟩) | (go_at_call 45; refine (ingroup_any _ _ (by assumption) (by assumption)).mono ?_; rintro e w' ⟨rfl, rfl⟩))
    go_ret2
    exact ⟨rfl, rfl⟩
  · have m := macB_f h
    rw [m]
    go_enter Tryz.func39, Tryz.ntmps39
    go_wp2_with (first | (go_at_call 44; refine (isaddr_any _ _).mono ?_; rintro e w' ⟨rfl, rfl⟩))
    go_ret2
    exact ⟨rfl, rfl⟩

end Go.Proofs.YthjbmloemmggaaaGreatDoor.Eth

namespace Go.Proofs.YthjbmloemmggaaaGreatDoor.Eth.Arp
open Go.RowKit
set_option maxRecDepth 100000
theorem later {w x : World} {a : Addr} {v : Value} (hb : Below w.heap.size w x) (h : w.cell? a = some v) : x.cell? a = some v := (hb.cell (World.block_lt_of_cell? _ _ h)).trans h

def At (W : World) (b : Nat) (vs : Array Value) : Prop := b < W.heap.size ∧ ∀ i v, vs[i]? = some v → W.cell? ⟨b, i, none⟩ = some v ∧ W.frozen? ⟨b, i, none⟩ = false
theorem At.box (w : World) (vs : Array Value) (t : TypeId) : At (w.alloc (.cells vs t)) w.heap.size vs := by
  refine ⟨by simp, fun i v h => ⟨?_, ?_⟩⟩
  · simp [World.cell?_alloc_new, h]
  · rw [frozen?_alloc_cells]; simp [World.frozen?]
theorem At.later {W x : World} {b : Nat} {vs : Array Value} (h : At W b vs) (hb : Below W.heap.size W x) : At x b vs :=
  ⟨Nat.lt_of_lt_of_le h.1 hb.size, fun i v hi => ⟨YthjbmloemmggaaaGreatDoor.Eth.Arp.later hb (h.2 i v hi).1, (hb.frozen (p := ⟨b, i, none⟩) h.1).trans (h.2 i v hi).2⟩⟩

end Go.Proofs.YthjbmloemmggaaaGreatDoor.Eth.Arp

namespace Go.Proofs.YthjbmloemmggaaaGreatDoor.Eth
open Go.RowKit
set_option maxRecDepth 100000

theorem later {w x : World} {a : Addr} {v : Value} (hb : Below w.heap.size w x) (h : w.cell? a = some v) : x.cell? a = some v := (hb.cell (World.block_lt_of_cell? _ _ h)).trans h
theorem box4 (w : World) (v0 v1 v2 v3 : Value) (t : TypeId) : (w.alloc (.cells #[v0, v1, v2, v3] t)).cell? ⟨w.heap.size, 0, none⟩ = some v0 ∧ (w.alloc (.cells #[v0, v1, v2, v3] t)).cell? ⟨w.heap.size, 1, none⟩ = some v1 ∧
    (w.alloc (.cells #[v0, v1, v2, v3] t)).cell? ⟨w.heap.size, 2, none⟩ = some v2 ∧ (w.alloc (.cells #[v0, v1, v2, v3] t)).cell? ⟨w.heap.size, 3, none⟩ = some v3 := by
  refine ⟨?_, ?_, ?_, ?_⟩ <;> simp [World.cell?_alloc_new]

theorem may_parts {t f k : Int} {z : Nat} (h : mayB t f k z = true) : (0 ≤ t ∧ t ≤ 281474976710655) ∧ (0 ≤ f ∧ f ≤ 281474976710655) ∧ f / 1099511627776 % 2 = 0 ∧ (1536 ≤ k ∧ k ≤ 65535) ∧ z ≤ 1500 := of_decide_eq_true h

theorem put_six (n : Int) (w : World) (h : 0 ≤ n ∧ n ≤ 281474976710655) :
    Calls Tryz.prog 28 #[.int .i64 n, .int .i64 6] w fun e w' => e = .returned (.tuple #[.string (txt n 6), .int .i64 0]) ∧ Below w.heap.size w w' := by
  have hp : putB n 6 = true := putB_t ⟨by decide, by decide, h.1, by have := h.2; simp; omega⟩
  have := pput_any n 6 w
  unfold putV at this
  rw [hp] at this
  exact this
theorem put_two (n : Int) (w : World) (h : 0 ≤ n ∧ n ≤ 65535) :
    Calls Tryz.prog 28 #[.int .i64 n, .int .i64 2] w fun e w' => e = .returned (.tuple #[.string (txt n 2), .int .i64 0]) ∧ Below w.heap.size w w' := by
  have hp : putB n 2 = true := putB_t ⟨by decide, by decide, h.1, by have := h.2; simp; omega⟩
  have := pput_any n 2 w
  unfold putV at this
  rw [hp] at this
  exact this

set_option maxHeartbeats 1000000 in
theorem enc_any (t f k : Int) (d : ByteArray) (w : World) (hd : d.size ≤ maxLen) :
    Calls Tryz.prog 11 #[.agg #[.int .i64 t, .int .i64 f, .int .i64 k, .string d]] w fun e w' => e = .returned (.tuple #[.string (encV t f k d), .int .i64 (codeE (mayB t f k d.size))]) ∧ Below w.heap.size w w' := by
  obtain ⟨c0, c1, c2, c3⟩ := box4 w (.int .i64 t) (.int .i64 f) (.int .i64 k) (.string d) 40
  have hbel := bel1 w
  unfold encV
  rcases Bool.eq_false_or_eq_true (mayB t f k d.size) with h | h
  · obtain ⟨ht, hf, _, ⟨k0, k1⟩, z⟩ := may_parts h
    have H : Hid (mayB t f k d.size = true) := h
    rw [h, if_pos rfl]
    have z1 := txt_size t 6
    have z2 := txt_size f 6
    have z3 := txt_size k 2
    go_enter Tryz.func11, Tryz.ntmps11
    go_wp2_with fail
    refine (may_any _ _ _ _ _ hd).mono ?_
    rintro e w1 ⟨rfl, hb1⟩
    have c0' := later hb1 c0
    go_wp2_with fail
    refine (put_six _ _ ht).mono ?_
    rintro e w2 ⟨rfl, hb2⟩
    have c1' := later hb2 (later hb1 c1)
    go_wp2_with fail
    refine (put_six _ _ hf).mono ?_
    rintro e w3 ⟨rfl, hb3⟩
    have c2' := later hb3 (later hb2 (later hb1 c2))
    go_wp2_with fail
    refine (put_two _ _ ⟨by omega, k1⟩).mono ?_
    rintro e w4 ⟨rfl, hb4⟩
    have c3' := later hb4 (later hb3 (later hb2 (later hb1 c3)))
    go_wp2
    go_ret2
    exact ⟨rfl, bt (bt (bt (bt (hbel _) hb1) hb2) hb3) hb4⟩
  · rw [h, if_neg (by simp)]
    go_enter Tryz.func11, Tryz.ntmps11
    go_wp2_with fail
    refine (may_any _ _ _ _ _ hd).mono ?_
    rintro e w1 ⟨rfl, hb1⟩
    go_wp2
    go_ret2
    exact ⟨rfl, bt (hbel _) hb1⟩

end Go.Proofs.YthjbmloemmggaaaGreatDoor.Eth

namespace Go.Proofs.YthjbmloemmggaaaGreatDoor.Eth
open Go.RowKit
set_option maxRecDepth 100000

def dT (s : ByteArray) : Int := numS (s.extract 0 6)
def dF (s : ByteArray) : Int := numS (s.extract 6 12)
def dK (s : ByteArray) : Int := numS (s.extract 12 14)
def dD (s : ByteArray) : ByteArray := s.extract 14 s.size
def decB (s : ByteArray) : Bool := if 14 ≤ s.size then mayB (dT s) (dF s) (dK s) (dD s).size else false
def deT (s : ByteArray) : Int := if decB s = true then dT s else 0
def deF (s : ByteArray) : Int := if decB s = true then dF s else 0
def deK (s : ByteArray) : Int := if decB s = true then dK s else 0
def deD (s : ByteArray) : ByteArray := if decB s = true then dD s else ⟨#[]⟩

def At4 (W : World) (b : Nat) (v0 v1 v2 v3 : Value) : Prop :=
  (W.cell? ⟨b, 0, none⟩ = some v0 ∧ W.cell? ⟨b, 1, none⟩ = some v1 ∧ W.cell? ⟨b, 2, none⟩ = some v2 ∧ W.cell? ⟨b, 3, none⟩ = some v3) ∧
  (W.frozen? ⟨b, 0, none⟩ = false ∧ W.frozen? ⟨b, 1, none⟩ = false ∧ W.frozen? ⟨b, 2, none⟩ = false ∧ W.frozen? ⟨b, 3, none⟩ = false) ∧ b < W.heap.size
theorem at_box (w : World) (v0 v1 v2 v3 : Value) (t : TypeId) : At4 (w.alloc (.cells #[v0, v1, v2, v3] t)) w.heap.size v0 v1 v2 v3 :=
  ⟨box4 w v0 v1 v2 v3 t, by refine ⟨?_, ?_, ?_, ?_⟩ <;> (rw [frozen?_alloc_cells]; simp [World.frozen?]), by simp⟩
theorem At4.later {W x : World} {b : Nat} {v0 v1 v2 v3 : Value} (h : At4 W b v0 v1 v2 v3) (hb : Below W.heap.size W x) : At4 x b v0 v1 v2 v3 :=
  ⟨⟨YthjbmloemmggaaaGreatDoor.Eth.later hb h.1.1, YthjbmloemmggaaaGreatDoor.Eth.later hb h.1.2.1, YthjbmloemmggaaaGreatDoor.Eth.later hb h.1.2.2.1, YthjbmloemmggaaaGreatDoor.Eth.later hb h.1.2.2.2⟩,
   ⟨(hb.frozen (p := ⟨b, 0, none⟩) h.2.2).trans h.2.1.1, (hb.frozen (p := ⟨b, 1, none⟩) h.2.2).trans h.2.1.2.1, (hb.frozen (p := ⟨b, 2, none⟩) h.2.2).trans h.2.1.2.2.1, (hb.frozen (p := ⟨b, 3, none⟩) h.2.2).trans h.2.1.2.2.2⟩, Nat.lt_of_lt_of_le h.2.2 hb.size⟩

theorem dD_size (s : ByteArray) : (dD s).size = s.size - 14 := by unfold dD; rw [ByteArray.size_extract]; omega
theorem get_to (s : ByteArray) (w : World) (hs : s.size ≤ maxLen) (h : 14 ≤ s.size) :
    Calls Tryz.prog 48 #[.string s, .int .i64 0, .int .i64 6] w fun e w' => e = .returned (.tuple #[.int .i64 (dT s), .int .i64 0]) ∧ Below w.heap.size w w' := by
  have hp : getB s.size 0 6 = true := getB_t ⟨by decide, by decide, by decide, by omega⟩
  have := get_any s 0 6 w hs
  unfold getV at this
  rw [hp] at this
  exact this
theorem get_from (s : ByteArray) (w : World) (hs : s.size ≤ maxLen) (h : 14 ≤ s.size) :
    Calls Tryz.prog 48 #[.string s, .int .i64 6, .int .i64 6] w fun e w' => e = .returned (.tuple #[.int .i64 (dF s), .int .i64 0]) ∧ Below w.heap.size w w' := by
  have hp : getB s.size 6 6 = true := getB_t ⟨by decide, by decide, by decide, by omega⟩
  have := get_any s 6 6 w hs
  unfold getV at this
  rw [hp] at this
  exact this
theorem get_kind (s : ByteArray) (w : World) (hs : s.size ≤ maxLen) (h : 14 ≤ s.size) :
    Calls Tryz.prog 48 #[.string s, .int .i64 12, .int .i64 2] w fun e w' => e = .returned (.tuple #[.int .i64 (dK s), .int .i64 0]) ∧ Below w.heap.size w w' := by
  have hp : getB s.size 12 2 = true := getB_t ⟨by decide, by decide, by decide, by omega⟩
  have := get_any s 12 2 w hs
  unfold getV at this
  rw [hp] at this
  exact this

set_option maxHeartbeats 1000000 in
theorem dec_any (s : ByteArray) (w : World) (hs : s.size ≤ maxLen) :
    Calls Tryz.prog 29 #[.string s] w fun e w' => e = .returned (.tuple #[.agg #[.int .i64 (deT s), .int .i64 (deF s), .int .i64 (deK s), .string (deD s)], .int .i64 (codeE (decB s))]) ∧ Below w.heap.size w w' := by
  have hm := hs
  unfold maxLen at hs
  unfold deT deF deK deD
  by_cases h : 14 ≤ s.size
  · have hz := dD_size s
    have hdm : (dD s).size ≤ maxLen := by rw [hz]; unfold maxLen; omega
    clear hz
    have hr0 := at_box w (.int .i64 0) (.int .i64 0) (.int .i64 0) (.string ⟨#[]⟩) 40
    have hl0 := bel1 w (.cells #[.int .i64 0, .int .i64 0, .int .i64 0, .string ⟨#[]⟩] 40)
    have hsl : ∀ W, (Instr.slice 9 (.string s) (some (.int .i64 14)) none none).run Tryz.prog W = .ok (.string (dD s)) W := fun W => by
      rw [run_slice_string_from_if W 9 s .i64 14 Tryz.underlying9, if_pos ⟨by omega, by omega⟩]; rfl
    rcases Bool.eq_false_or_eq_true (mayB (dT s) (dF s) (dK s) (dD s).size) with g | g
    · have hB : decB s = true := by unfold decB; rw [if_pos h, g]
      rw [hB, if_pos rfl, if_pos rfl, if_pos rfl, if_pos rfl]
      clear hB
      go_enter Tryz.func29, Tryz.ntmps29
      go_wp2_with fail
      refine (get_to _ _ hm h).mono ?_
      rintro e w1 ⟨rfl, hb1⟩
      go_wp2_with fail
      refine (get_from _ _ hm h).mono ?_
      rintro e w2 ⟨rfl, hb2⟩
      go_wp2_with fail
      refine (get_kind _ _ hm h).mono ?_
      rintro e w3 ⟨rfl, hb3⟩
      go_wp2_with fail
      refine (may_any _ _ _ _ _ hdm).mono ?_
      rintro e w4 ⟨rfl, hb4⟩
      obtain ⟨⟨r0, r1, r2, r3⟩, ⟨f0, f1, f2, f3⟩, hlt⟩ := (((hr0.later hb1).later hb2).later hb3).later (bt (bel1 w3 _) hb4)
      obtain ⟨⟨c0, c1, c2, c3⟩, -, -⟩ := (at_box w3 (.int .i64 (dT s)) (.int .i64 (dF s)) (.int .i64 (dK s)) (.string (dD s)) 40).later hb4
      have hbl := bt (bt (bt (bt hl0 hb1) hb2) hb3) (bt (bel1 w3 _) hb4)
      clear hr0 hl0 hb1 hb2 hb3 hb4 hsl
      generalize w3.heap.size = b3 at *
      go_wp2
      exact bodyPost_ret (v := .tuple #[.agg #[.int .i64 (dT s), .int .i64 (dF s), .int .i64 (dK s), .string (dD s)], .int .i64 0]) (by simp [results, Tryz.results29, go_sem, r0, r1, r2, r3]) rfl ⟨rfl, (((hbl.setCell (Nat.le_refl _) _).setCell (Nat.le_refl _) _).setCell (Nat.le_refl _) _).setCell (Nat.le_refl _) _⟩
    · have hB : decB s = false := by unfold decB; rw [if_pos h, g]
      rw [hB, if_neg (by simp), if_neg (by simp), if_neg (by simp), if_neg (by simp)]
      clear hB
      go_enter Tryz.func29, Tryz.ntmps29
      go_wp2_with fail
      refine (get_to _ _ hm h).mono ?_
      rintro e w1 ⟨rfl, hb1⟩
      go_wp2_with fail
      refine (get_from _ _ hm h).mono ?_
      rintro e w2 ⟨rfl, hb2⟩
      go_wp2_with fail
      refine (get_kind _ _ hm h).mono ?_
      rintro e w3 ⟨rfl, hb3⟩
      go_wp2_with fail
      refine (may_any _ _ _ _ _ hdm).mono ?_
      rintro e w4 ⟨rfl, hb4⟩
      obtain ⟨⟨r0, r1, r2, r3⟩, ⟨f0, f1, f2, f3⟩, hlt⟩ := (((hr0.later hb1).later hb2).later hb3).later (bt (bel1 w3 _) hb4)
      have hbl := bt (bt (bt (bt hl0 hb1) hb2) hb3) (bt (bel1 w3 _) hb4)
      clear hr0 hl0 hb1 hb2 hb3 hb4 hsl
      generalize w3.heap.size = b3 at *
      go_wp2
      exact bodyPost_ret (v := .tuple #[.agg #[.int .i64 0, .int .i64 0, .int .i64 0, .string ⟨#[]⟩], .int .i64 30]) (by simp [results, Tryz.results29, go_sem, r0, r1, r2, r3]) rfl ⟨rfl, (((hbl.setCell (Nat.le_refl _) _).setCell (Nat.le_refl _) _).setCell (Nat.le_refl _) _).setCell (Nat.le_refl _) _⟩
  · have hB : decB s = false := by unfold decB; rw [if_neg h]
    rw [hB, if_neg (by simp), if_neg (by simp), if_neg (by simp), if_neg (by simp)]
    clear hB
    have hr0 := at_box w (.int .i64 0) (.int .i64 0) (.int .i64 0) (.string ⟨#[]⟩) 40
    have hl0 := bel1 w (.cells #[.int .i64 0, .int .i64 0, .int .i64 0, .string ⟨#[]⟩] 40)
    go_enter Tryz.func29, Tryz.ntmps29
    go_wp2
    exact bodyPost_ret (v := .tuple #[.agg #[.int .i64 0, .int .i64 0, .int .i64 0, .string ⟨#[]⟩], .int .i64 30]) (by simp [results, Tryz.results29, go_sem]) rfl ⟨rfl, hl0⟩
end Go.Proofs.YthjbmloemmggaaaGreatDoor.Eth

namespace Go.Proofs.YthjbmloemmggaaaGreatDoor.Eth
open Go.RowKit
set_option maxRecDepth 100000

theorem byteAt_succ (n : Int) (j : Nat) : byteAt n (j + 1) = byteAt (n / 256) j := by
  unfold byteAt
  rw [show 8 * (j + 1) = 8 + 8 * j by omega, Int.pow_add, ← Int.ediv_ediv_of_nonneg (by decide)]
  rfl
theorem txtL_succ (n : Int) (k : Nat) : txtL n (k + 1) = txtL (n / 256) k ++ [byteAt n 0] := by
  unfold txtL
  rw [List.range_succ, List.map_append]
  congr 1
  · apply List.map_congr_left
    intro i hi
    have := List.mem_range.1 hi
    rw [show k + 1 - 1 - i = (k - 1 - i) + 1 by omega, byteAt_succ]
  · simp
theorem numL_txtL (k : Nat) : ∀ n : Int, numL (txtL n k) = n % 256 ^ k := by
  induction k with
  | zero => intro n; simp [txtL, numL]
  | succ k ih =>
    intro n
    rw [txtL_succ, numL_snoc, ih, byteAt_toNat]
    have hm : (0 : Int) < 256 ^ k := Int.pow_pos (by decide)
    rw [Int.pow_succ]
    generalize (256 : Int) ^ k = m at hm
    simp only [Nat.mul_zero, Int.pow_zero, Int.ediv_one]
    have e1 := Int.emod_add_mul_ediv (n / 256) m
    have b0 := Int.emod_nonneg (n / 256) (by omega : m ≠ 0)
    have b1 := Int.emod_lt_of_pos (n / 256) hm
    generalize n / 256 % m = r at e1 b0 b1 ⊢
    generalize n / 256 / m = q at e1
    have e2 : n = (r * 256 + n % 256) + (m * 256) * q := by
      rw [Int.mul_assoc, Int.mul_comm 256 q, ← Int.mul_assoc]
      omega
    have e3 : (r * 256 + n % 256) % (m * 256) = r * 256 + n % 256 := Int.emod_eq_of_lt (by omega) (by omega)
    have e4 : n % (m * 256) = ((r * 256 + n % 256) + (m * 256) * q) % (m * 256) := by rw [← e2]
    rw [e4, Int.add_mul_emod_self_left, e3]
theorem num_txt (n : Int) (k : Nat) (h0 : 0 ≤ n) (h1 : n < 256 ^ k) : numL (txtL n k) = n := by
  rw [numL_txtL, Int.emod_eq_of_lt h0 h1]
theorem enc_toList (t f k : Int) (d : ByteArray) : (encS t f k d).data.toList = txtL t 6 ++ (txtL f 6 ++ (txtL k 2 ++ d.data.toList)) := by
  unfold encS
  rw [app_toList, app_toList, app_toList, txt_toList, txt_toList, txt_toList, List.append_assoc, List.append_assoc]
theorem enc_size (t f k : Int) (d : ByteArray) : (encS t f k d).size = 14 + d.size := by
  unfold encS
  rw [ByteArray.size_append, ByteArray.size_append, ByteArray.size_append, txt_size, txt_size, txt_size]
theorem dT_enc (t f k : Int) (d : ByteArray) (h : 0 ≤ t ∧ t ≤ 281474976710655) : dT (encS t f k d) = t := by
  unfold dT numS
  rw [ext_toList, enc_toList, List.drop_zero, List.take_left' (by rw [txtL_len])]
  exact num_txt t 6 h.1 (by have := h.2; omega)
theorem dF_enc (t f k : Int) (d : ByteArray) (h : 0 ≤ f ∧ f ≤ 281474976710655) : dF (encS t f k d) = f := by
  unfold dF numS
  rw [ext_toList, enc_toList, List.drop_left' (by rw [txtL_len]), List.take_left' (by rw [txtL_len])]
  exact num_txt f 6 h.1 (by have := h.2; omega)
theorem dK_enc (t f k : Int) (d : ByteArray) (h : 0 ≤ k ∧ k ≤ 65535) : dK (encS t f k d) = k := by
  unfold dK numS
  rw [ext_toList, enc_toList, ← List.append_assoc, List.drop_left' (by rw [List.length_append, txtL_len, txtL_len]), List.take_left' (by rw [txtL_len])]
  exact num_txt k 2 h.1 (by have := h.2; omega)
theorem dD_enc (t f k : Int) (d : ByteArray) : dD (encS t f k d) = d := by
  apply ba_toList
  unfold dD
  rw [ext_toList, enc_toList, enc_size, ← List.append_assoc, ← List.append_assoc, List.drop_left' (by rw [List.length_append, List.length_append, txtL_len, txtL_len, txtL_len]), List.take_of_length_le (by rw [len_toList]; omega)]

theorem dec_of_enc {t f k : Int} {d : ByteArray} (h : mayB t f k d.size = true) :
    decB (encS t f k d) = true ∧ deT (encS t f k d) = t ∧ deF (encS t f k d) = f ∧ deK (encS t f k d) = k ∧ deD (encS t f k d) = d := by
  obtain ⟨ht, hf, hg, hk, hz⟩ := may_parts h
  have e1 := dT_enc t f k d ht
  have e2 := dF_enc t f k d hf
  have e3 := dK_enc t f k d ⟨by omega, hk.2⟩
  have e4 := dD_enc t f k d
  have hB : decB (encS t f k d) = true := by
    unfold decB; rw [if_pos (by rw [enc_size]; omega), e1, e2, e3, e4, h]
  unfold deT deF deK deD
  rw [hB]
  exact ⟨rfl, e1, e2, e3, e4⟩
end Go.Proofs.YthjbmloemmggaaaGreatDoor.Eth

namespace Go.Proofs.YthjbmloemmggaaaGreatDoor.Eth
open Go.RowKit
set_option maxRecDepth 100000

theorem below_draws {B : Nat} {a w : World} (h : Below B a w) (n : Nat) : Below B a (w.drewN n) := h.trans ⟨rfl, rfl, rfl, Nat.le_refl _, fun _ _ => rfl⟩

def Row (w : World) (a : Option Addr) (zs : List Int) : Prop :=
  zs = [] ∨ ∃ b off, a = some ⟨b, off, none⟩ ∧ ∀ j, j < zs.length → w.cell? ⟨b, off + j, none⟩ = some (.int .i64 (zs.getD j 0))
theorem Row.later {w x : World} {a : Option Addr} {zs : List Int} (h : Row w a zs) (hb : Below w.heap.size w x) : Row x a zs := by
  rcases h with h | ⟨b, off, h, hc⟩
  · exact Or.inl h
  · exact Or.inr ⟨b, off, h, fun j hj => YthjbmloemmggaaaGreatDoor.Eth.later hb (hc j hj)⟩

theorem same_any (a1 : Option Addr) (c1 : Nat) (a2 : Option Addr) (c2 : Nat) (zs : List Int) (w : World) (hbig : zs.length ≤ 9223372036854775807) (h1 : Row w a1 zs) (h2 : Row w a2 zs) :
    Calls Tryz.prog 12 #[.slice a1 zs.length c1, .slice a2 zs.length c2] w fun e w' => e = .returned (.bool true) ∧ Below w.heap.size w w' := by
  rcases h1 with rfl | ⟨b1, o1, rfl, hc1⟩
  · go_enter Tryz.func12, Tryz.ntmps12
    go_wp2
    refine wp_loop_rounds 1 ?_
    rw [rounds_succ]
    go_wp2
    go_ret
    exact ⟨rfl, Below.refl _ _⟩
  · rcases h2 with rfl | ⟨b2, o2, rfl, hc2⟩
    · go_enter Tryz.func12, Tryz.ntmps12
      go_wp2
      refine wp_loop_rounds 1 ?_
      rw [rounds_succ]
      go_wp2
      go_ret
      exact ⟨rfl, Below.refl _ _⟩
    · have H1 : Hid (∀ j, j < zs.length → w.cell? ⟨b1, o1 + j, none⟩ = some (.int .i64 (zs.getD j 0))) := hc1
      have H2 : Hid (∀ j, j < zs.length → w.cell? ⟨b2, o2 + j, none⟩ = some (.int .i64 (zs.getD j 0))) := hc2
      clear hc1 hc2
      go_enter Tryz.func12, Tryz.ntmps12
      go_wp2
      go_loopw [5] (fun i wr => ∃ k : Nat, k ≤ zs.length ∧ i = .int .i64 k ∧ Below w.heap.size w wr) (fun i _ => zs.length - (intOf i).toNat)
      case atStart => exact ⟨0, Nat.zero_le _, rfl, Below.refl _ _⟩
      case round =>
        obtain ⟨k, hk, rfl, hbel⟩ := hrel
        by_cases hlt : k < zs.length
        · have g1 := later hbel (H1.out k hlt)
          have g2 := later hbel (H2.out k hlt)
          have hki : (k : Int) < (zs.length : Int) := by omega
          have hk0 : (0 : Int) ≤ (k : Int) := by omega
          generalize zs.getD k 0 = p at *
          go_wp2
          go_quiet (fail)
          go_wp2
          go_roundw
          case rel => exact ⟨k + 1, by omega, by go_num, below_draws hbel _⟩
          case measure => simp [intOf]; omega
        · go_wp2
          go_ret
          exact ⟨rfl, hbel⟩
end Go.Proofs.YthjbmloemmggaaaGreatDoor.Eth
