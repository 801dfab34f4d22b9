/- Plain facts of ARP packets: which may be; a boxed struct of any number of cells; and the contract of narrow of package arp. -/
import Derived.Test.YtjldcillackhdaaEChecks
namespace Go.Proofs.Ytjldcillackhdaa.Eth.Arp
open Go.RowKit
set_option maxRecDepth 100000

def mayA (o fm fi tm ti : Int) : Bool := decide ((o = 1 ∨ o = 2) ∧ (0 ≤ fm ∧ fm ≤ 281474976710655) ∧ fm / 1099511627776 % 2 = 0 ∧ (0 ≤ fi ∧ fi ≤ 4294967295) ∧ (0 ≤ tm ∧ tm ≤ 281474976710655) ∧ (0 ≤ ti ∧ ti ≤ 4294967295))
def codeA (b : Bool) : Int := if b = true then 0 else 40
theorem codeA_t : codeA true = 0 := rfl
theorem codeA_f : codeA false = 40 := rfl

theorem later {w x : World} {a : Addr} {v : Value} (hb : Below w.heap.size w x) (h : w.cell? a = some v) : x.cell? a = some v := (hb.cell (World.block_lt_of_cell? _ _ h)).trans h

/-- A boxed struct: its cells, none of them frozen. -/
def At (W : World) (b : Nat) (vs : Array Value) : Prop := b < W.heap.size ∧ ∀ i v, vs[i]? = some v → W.cell? ⟨b, i, none⟩ = some v ∧ W.frozen? ⟨b, i, none⟩ = false
theorem At.box (w : World) (vs : Array Value) (t : TypeId) : At (w.alloc (.cells vs t)) w.heap.size vs := by
  refine ⟨by simp, fun i v h => ⟨?_, ?_⟩⟩
  · simp [World.cell?_alloc_new, h]
  · rw [frozen?_alloc_cells]; simp [World.frozen?]
theorem At.later {W x : World} {b : Nat} {vs : Array Value} (h : At W b vs) (hb : Below W.heap.size W x) : At x b vs :=
  ⟨Nat.lt_of_lt_of_le h.1 hb.size, fun i v hi => ⟨Ytjldcillackhdaa.Eth.Arp.later hb (h.2 i v hi).1, (hb.frozen (p := ⟨b, i, none⟩) h.1).trans (h.2 i v hi).2⟩⟩

theorem and_ip (n : Int) : bits .and .i64 n 4294967295 = n % 4294967296 := by
  show IntKind.i64.wrap ((BitVec.ofInt 64 n &&& BitVec.ofInt 64 4294967295).toNat : Nat) = _
  have e : (BitVec.ofInt 64 4294967295).toNat = 2 ^ 32 - 1 := by decide
  rw [BitVec.toNat_and, e, Nat.and_two_pow_sub_one_eq_mod, BitVec.toNat_ofInt, IntKind.wrap_i64]
  omega
theorem and_mac (n : Int) : bits .and .i64 n 281474976710655 = n % 281474976710656 := by
  show IntKind.i64.wrap ((BitVec.ofInt 64 n &&& BitVec.ofInt 64 281474976710655).toNat : Nat) = _
  have e : (BitVec.ofInt 64 281474976710655).toNat = 2 ^ 48 - 1 := by decide
  rw [BitVec.toNat_and, e, Nat.and_two_pow_sub_one_eq_mod, BitVec.toNat_ofInt, IntKind.wrap_i64]
  omega

theorem narrow_any (o fm fi tm ti : Int) (w : World) :
    Calls Try.prog 55 #[.agg #[.int .i64 o, .int .i64 fm, .int .i64 fi, .int .i64 tm, .int .i64 ti]] w fun e w' => e = .returned (.agg #[.int .i64 o, .int .i64 fm, .int .i64 (fi % 4294967296), .int .i64 (tm % 281474976710656), .int .i64 (ti % 4294967296)]) ∧ Below w.heap.size w w' := by
  have a1 := and_ip fi
  have a2 := and_mac tm
  have a3 := and_ip ti
  go_enter Try.func55, Try.ntmps55
  go_wp2
  exact bodyPost_ret (v := .agg #[.int .i64 o, .int .i64 fm, .int .i64 (fi % 4294967296), .int .i64 (tm % 281474976710656), .int .i64 (ti % 4294967296)]) (by simp [results, Try.results55, go_sem]) rfl ⟨rfl, bt (bel1 _ _) (bel1 _ _)⟩

theorem mayA_t {o fm fi tm ti : Int} (h : (o = 1 ∨ o = 2) ∧ (0 ≤ fm ∧ fm ≤ 281474976710655) ∧ fm / 1099511627776 % 2 = 0 ∧ (0 ≤ fi ∧ fi ≤ 4294967295) ∧ (0 ≤ tm ∧ tm ≤ 281474976710655) ∧ (0 ≤ ti ∧ ti ≤ 4294967295)) : mayA o fm fi tm ti = true := decide_eq_true h
theorem mayA_f {o fm fi tm ti : Int} (h : ¬ ((o = 1 ∨ o = 2) ∧ (0 ≤ fm ∧ fm ≤ 281474976710655) ∧ fm / 1099511627776 % 2 = 0 ∧ (0 ≤ fi ∧ fi ≤ 4294967295) ∧ (0 ≤ tm ∧ tm ≤ 281474976710655) ∧ (0 ≤ ti ∧ ti ≤ 4294967295))) : mayA o fm fi tm ti = false := decide_eq_false h
theorem mayA_parts {o fm fi tm ti : Int} (h : mayA o fm fi tm ti = true) : (o = 1 ∨ o = 2) ∧ (0 ≤ fm ∧ fm ≤ 281474976710655) ∧ fm / 1099511627776 % 2 = 0 ∧ (0 ≤ fi ∧ fi ≤ 4294967295) ∧ (0 ≤ tm ∧ tm ≤ 281474976710655) ∧ (0 ≤ ti ∧ ti ≤ 4294967295) := of_decide_eq_true h

theorem keep5 {w W x : World} {a b c d f : Addr} {v0 v1 v2 v3 v4 : Value} (hb : Below W.heap.size W x) (h : Below w.heap.size w W ∧ W.cell? a = some v0 ∧ W.cell? b = some v1 ∧ W.cell? c = some v2 ∧ W.cell? d = some v3 ∧ W.cell? f = some v4) :
    Below w.heap.size w x ∧ x.cell? a = some v0 ∧ x.cell? b = some v1 ∧ x.cell? c = some v2 ∧ x.cell? d = some v3 ∧ x.cell? f = some v4 :=
  ⟨bt h.1 hb, later hb h.2.1, later hb h.2.2.1, later hb h.2.2.2.1, later hb h.2.2.2.2.1, later hb h.2.2.2.2.2⟩
theorem box5 (w : World) (v0 v1 v2 v3 v4 : Value) (t : TypeId) : (w.alloc (.cells #[v0, v1, v2, v3, v4] t)).cell? ⟨w.heap.size, 0, none⟩ = some v0 ∧ (w.alloc (.cells #[v0, v1, v2, v3, v4] t)).cell? ⟨w.heap.size, 1, none⟩ = some v1 ∧
    (w.alloc (.cells #[v0, v1, v2, v3, v4] t)).cell? ⟨w.heap.size, 2, none⟩ = some v2 ∧ (w.alloc (.cells #[v0, v1, v2, v3, v4] t)).cell? ⟨w.heap.size, 3, none⟩ = some v3 ∧ (w.alloc (.cells #[v0, v1, v2, v3, v4] t)).cell? ⟨w.heap.size, 4, none⟩ = some v4 := by
  refine ⟨?_, ?_, ?_, ?_, ?_⟩ <;> simp [World.cell?_alloc_new]
end Go.Proofs.Ytjldcillackhdaa.Eth.Arp
