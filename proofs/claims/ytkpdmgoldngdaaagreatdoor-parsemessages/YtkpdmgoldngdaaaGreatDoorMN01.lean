/- the texts EChecks, Arps, Amay, Achk, Amade, Aenc, Adec, in part, merged by program -/
import Derived.Test.YtkpdmgoldngdaaaGreatDoorRows
import Derived.WalkKit
import Derived.WalkSpells
import Derived.Deep.RegionHeld3
import Derived.Deep.QuietTactic
import Derived.BigQuiet
import Derived.WalkSmall
import Derived.Test.YtkpdmgoldngdaaaGreatDoorMA01
import Derived.Test.YtkpdmgoldngdaaaGreatDoorMA02
import Derived.Test.YtkpdmgoldngdaaaGreatDoorMD01
import Derived.Test.YtkpdmgoldngdaaaGreatDoorMG01
namespace Go.Proofs.YtkpdmgoldngdaaaGreatDoor.Eth
open Go.RowKit
set_option maxRecDepth 100000
theorem pgroup_any (n : Int) (w : World) :
    Calls Tryz.prog 99 #[.int .i64 n] w fun e w' => e = .returned (.tuple #[.bool (macB n && grpB n), .int .i64 (codeB (macB n))]) ∧ w' = w := by
  by_cases h : 0 ≤ n ∧ n ≤ 281474976710655
  · have m := macB_t h
    obtain ⟨h0, h1⟩ := h
    rw [m]
    go_enter Tryz.func99, Tryz.ntmps99
    go_wp2_with (first | (go_at_call 102; refine (isaddr_any _ _).mono ?_; rintro e w' ⟨rfl, rfl⟩) | (go_at_call 103; refine (ingroup_any _ _ (by assumption) (by assumption)).mono ?_; rintro e w' ⟨rfl, rfl⟩))
    go_ret2
    exact ⟨rfl, rfl⟩
  · have m := macB_f h
    rw [m]
    go_enter Tryz.func99, Tryz.ntmps99
    go_wp2_with (first | (go_at_call 102; refine (isaddr_any _ _).mono ?_; rintro e w' ⟨rfl, rfl⟩))
    go_ret2
    exact ⟨rfl, rfl⟩

end Go.Proofs.YtkpdmgoldngdaaaGreatDoor.Eth

namespace Go.Proofs.YtkpdmgoldngdaaaGreatDoor.Eth.Arp
open Go.RowKit
set_option maxRecDepth 100000

def mayA (o fm fi tm ti : Int) : Bool := decide ((o = 1 ∨ o = 2) ∧ (0 ≤ fm ∧ fm ≤ 281474976710655) ∧ fm / 1099511627776 % 2 = 0 ∧ (0 ≤ fi ∧ fi ≤ 4294967295) ∧ (0 ≤ tm ∧ tm ≤ 281474976710655) ∧ (0 ≤ ti ∧ ti ≤ 4294967295))
theorem later {w x : World} {a : Addr} {v : Value} (hb : Below w.heap.size w x) (h : w.cell? a = some v) : x.cell? a = some v := (hb.cell (World.block_lt_of_cell? _ _ h)).trans h

def At (W : World) (b : Nat) (vs : Array Value) : Prop := b < W.heap.size ∧ ∀ i v, vs[i]? = some v → W.cell? ⟨b, i, none⟩ = some v ∧ W.frozen? ⟨b, i, none⟩ = false
theorem At.box (w : World) (vs : Array Value) (t : TypeId) : At (w.alloc (.cells vs t)) w.heap.size vs := by
  refine ⟨by simp, fun i v h => ⟨?_, ?_⟩⟩
  · simp [World.cell?_alloc_new, h]
  · rw [frozen?_alloc_cells]; simp [World.frozen?]
theorem At.later {W x : World} {b : Nat} {vs : Array Value} (h : At W b vs) (hb : Below W.heap.size W x) : At x b vs :=
  ⟨Nat.lt_of_lt_of_le h.1 hb.size, fun i v hi => ⟨YtkpdmgoldngdaaaGreatDoor.Eth.Arp.later hb (h.2 i v hi).1, (hb.frozen (p := ⟨b, i, none⟩) h.1).trans (h.2 i v hi).2⟩⟩

theorem and_ip (n : Int) : bits .and .i64 n 4294967295 = n % 4294967296 := by
  show IntKind.i64.wrap ((BitVec.ofInt 64 n &&& BitVec.ofInt 64 4294967295).toNat : Nat) = _
  have e : (BitVec.ofInt 64 4294967295).toNat = 2 ^ 32 - 1 := by decide
  rw [BitVec.toNat_and, e, Nat.and_two_pow_sub_one_eq_mod, BitVec.toNat_ofInt, IntKind.wrap_i64]
  omega
theorem and_mac (n : Int) : bits .and .i64 n 281474976710655 = n % 281474976710656 := by
  show IntKind.i64.wrap ((BitVec.ofInt 64 n &&& BitVec.ofInt 64 281474976710655).toNat : Nat) = _
  have e : (BitVec.ofInt 64 281474976710655).toNat = 2 ^ 48 - 1 := by decide
  rw [BitVec.toNat_and, e, Nat.and_two_pow_sub_one_eq_mod, BitVec.toNat_ofInt, IntKind.wrap_i64]
  omega

theorem narrow_any (o fm fi tm ti : Int) (w : World) :
    Calls Tryz.prog 100 #[.agg #[.int .i64 o, .int .i64 fm, .int .i64 fi, .int .i64 tm, .int .i64 ti]] w fun e w' => e = .returned (.agg #[.int .i64 o, .int .i64 fm, .int .i64 (fi % 4294967296), .int .i64 (tm % 281474976710656), .int .i64 (ti % 4294967296)]) ∧ Below w.heap.size w w' := by
  have a1 := and_ip fi
  have a2 := and_mac tm
  have a3 := and_ip ti
  go_enter Tryz.func100, Tryz.ntmps100
  go_wp2
  exact bodyPost_ret (v := .agg #[.int .i64 o, .int .i64 fm, .int .i64 (fi % 4294967296), .int .i64 (tm % 281474976710656), .int .i64 (ti % 4294967296)]) (by simp [results, Tryz.results100, go_sem]) rfl ⟨rfl, bt (bel1 _ _) (bel1 _ _)⟩

theorem mayA_t {o fm fi tm ti : Int} (h : (o = 1 ∨ o = 2) ∧ (0 ≤ fm ∧ fm ≤ 281474976710655) ∧ fm / 1099511627776 % 2 = 0 ∧ (0 ≤ fi ∧ fi ≤ 4294967295) ∧ (0 ≤ tm ∧ tm ≤ 281474976710655) ∧ (0 ≤ ti ∧ ti ≤ 4294967295)) : mayA o fm fi tm ti = true := decide_eq_true h
theorem mayA_f {o fm fi tm ti : Int} (h : ¬ ((o = 1 ∨ o = 2) ∧ (0 ≤ fm ∧ fm ≤ 281474976710655) ∧ fm / 1099511627776 % 2 = 0 ∧ (0 ≤ fi ∧ fi ≤ 4294967295) ∧ (0 ≤ tm ∧ tm ≤ 281474976710655) ∧ (0 ≤ ti ∧ ti ≤ 4294967295))) : mayA o fm fi tm ti = false := decide_eq_false h
theorem keep5 {w W x : World} {a b c d f : Addr} {v0 v1 v2 v3 v4 : Value} (hb : Below W.heap.size W x) (h : Below w.heap.size w W ∧ W.cell? a = some v0 ∧ W.cell? b = some v1 ∧ W.cell? c = some v2 ∧ W.cell? d = some v3 ∧ W.cell? f = some v4) :
    Below w.heap.size w x ∧ x.cell? a = some v0 ∧ x.cell? b = some v1 ∧ x.cell? c = some v2 ∧ x.cell? d = some v3 ∧ x.cell? f = some v4 :=
  ⟨bt h.1 hb, later hb h.2.1, later hb h.2.2.1, later hb h.2.2.2.1, later hb h.2.2.2.2.1, later hb h.2.2.2.2.2⟩
theorem box5 (w : World) (v0 v1 v2 v3 v4 : Value) (t : TypeId) : (w.alloc (.cells #[v0, v1, v2, v3, v4] t)).cell? ⟨w.heap.size, 0, none⟩ = some v0 ∧ (w.alloc (.cells #[v0, v1, v2, v3, v4] t)).cell? ⟨w.heap.size, 1, none⟩ = some v1 ∧
    (w.alloc (.cells #[v0, v1, v2, v3, v4] t)).cell? ⟨w.heap.size, 2, none⟩ = some v2 ∧ (w.alloc (.cells #[v0, v1, v2, v3, v4] t)).cell? ⟨w.heap.size, 3, none⟩ = some v3 ∧ (w.alloc (.cells #[v0, v1, v2, v3, v4] t)).cell? ⟨w.heap.size, 4, none⟩ = some v4 := by
  refine ⟨?_, ?_, ?_, ?_, ?_⟩ <;> simp [World.cell?_alloc_new]
end Go.Proofs.YtkpdmgoldngdaaaGreatDoor.Eth.Arp

namespace Go.Proofs.YtkpdmgoldngdaaaGreatDoor.Eth.Arp
open Go.RowKit
set_option maxRecDepth 100000

theorem neb {a b : Int} (h : ¬ a = b) : (a != b) = true := by simpa using h
theorem op_ways {o : Int} (h : o = 1 ∨ o = 2) : (o != 1) = false ∨ (o != 1) = true ∧ (o != 2) = false := by rcases h with rfl | rfl <;> simp
theorem amay_op (o fm fi tm ti : Int) (w : World) (h1 : ¬ o = 1) (h2 : ¬ o = 2) :
    Calls Tryz.prog 56 #[.agg #[.int .i64 o, .int .i64 fm, .int .i64 fi, .int .i64 tm, .int .i64 ti]] w fun e w' => e = .returned (.bool false) ∧ Below w.heap.size w w' := by
  have b1 := neb h1
  have b2 := neb h2
  go_enter Tryz.func56, Tryz.ntmps56
  go_wp2
  go_ret
  exact ⟨rfl, bel1 _ _⟩

theorem pg_1 {n : Int} (h : macB n = false) (w : World) : Calls Tryz.prog 99 #[.int .i64 n] w fun e w' => e = .returned (.tuple #[.bool false, .int .i64 1]) ∧ w' = w := by
  have := pgroup_any n w; rw [h] at this; exact this
theorem pg_2 {n : Int} (h : macB n = true) (g : grpB n = true) (w : World) : Calls Tryz.prog 99 #[.int .i64 n] w fun e w' => e = .returned (.tuple #[.bool true, .int .i64 0]) ∧ w' = w := by
  have := pgroup_any n w; rw [h, g] at this; exact this
theorem pg_3 {n : Int} (h : macB n = true) (g : grpB n = false) (w : World) : Calls Tryz.prog 99 #[.int .i64 n] w fun e w' => e = .returned (.tuple #[.bool false, .int .i64 0]) ∧ w' = w := by
  have := pgroup_any n w; rw [h, g] at this; exact this
theorem amay_mac (o fm fi tm ti : Int) (w : World) (ho : o = 1 ∨ o = 2) (h : macB fm = false ∨ macB fm = true ∧ grpB fm = true) :
    Calls Tryz.prog 56 #[.agg #[.int .i64 o, .int .i64 fm, .int .i64 fi, .int .i64 tm, .int .i64 ti]] w fun e w' => e = .returned (.bool false) ∧ Below w.heap.size w w' := by
  have hx := box5 w (.int .i64 o) (.int .i64 fm) (.int .i64 fi) (.int .i64 tm) (.int .i64 ti) 25
  have hbel := bel1 w
  rcases op_ways ho with ho | ⟨ho, ho2⟩
  all_goals
    rcases h with h | ⟨h, g⟩
    all_goals
      go_enter Tryz.func56, Tryz.ntmps56
      go_wp2_with fail
      first | refine (pg_2 h g _).mono ?_ | refine (pg_1 h _).mono ?_
      rintro e w1 ⟨rfl, rfl⟩
      go_wp2
      go_quiet (fail)
      go_wp2
      go_ret
      exact ⟨rfl, below_drewN (hbel _) _⟩

set_option maxHeartbeats 2000000 in
theorem amay_rest (o fm fi tm ti : Int) (b : Bool) (w : World) (ho : o = 1 ∨ o = 2) (h : macB fm = true) (g : grpB fm = false)
    (hb : b = true ∧ fi = fi % 4294967296 ∧ tm = tm % 281474976710656 ∧ ti = ti % 4294967296 ∨ b = false ∧ ¬ fi = fi % 4294967296 ∨ b = false ∧ fi = fi % 4294967296 ∧ ¬ tm = tm % 281474976710656 ∨ b = false ∧ fi = fi % 4294967296 ∧ tm = tm % 281474976710656 ∧ ¬ ti = ti % 4294967296) :
    Calls Tryz.prog 56 #[.agg #[.int .i64 o, .int .i64 fm, .int .i64 fi, .int .i64 tm, .int .i64 ti]] w fun e w' => e = .returned (.bool b) ∧ Below w.heap.size w w' := by
  have hx := box5 w (.int .i64 o) (.int .i64 fm) (.int .i64 fi) (.int .i64 tm) (.int .i64 ti) 25
  have hbel := bel1 w
  have hn := fun W => narrow_any o fm fi tm ti W
  generalize fi % 4294967296 = fi' at *
  generalize tm % 281474976710656 = tm' at *
  generalize ti % 4294967296 = ti' at *
  rcases op_ways ho with ho | ⟨ho, ho2⟩
  all_goals
    rcases hb with ⟨rfl, rfl, rfl, rfl⟩ | ⟨rfl, q⟩ | ⟨rfl, rfl, q⟩ | ⟨rfl, rfl, rfl, q⟩
    all_goals
      go_enter Tryz.func56, Tryz.ntmps56
      go_wp2_with fail
      refine (pg_3 h g _).mono ?_
      rintro e w1 ⟨rfl, rfl⟩
      go_wp2
      have hx5 := And.intro (hbel (.cells #[.int .i64 o, .int .i64 fm, .int .i64 fi, .int .i64 tm, .int .i64 ti] 25)) hx
      clear hx hbel
      generalize w.alloc (.cells #[.int .i64 o, .int .i64 fm, .int .i64 fi, .int .i64 tm, .int .i64 ti] 25) = W0 at hx5 ⊢
      go_region_held3 (fun W => Below w.heap.size w W ∧ W.cell? ⟨w.heap.size, 0, none⟩ = some (.int .i64 o) ∧ W.cell? ⟨w.heap.size, 1, none⟩ = some (.int .i64 fm) ∧ W.cell? ⟨w.heap.size, 2, none⟩ = some (.int .i64 fi) ∧ W.cell? ⟨w.heap.size, 3, none⟩ = some (.int .i64 tm) ∧ W.cell? ⟨w.heap.size, 4, none⟩ = some (.int .i64 ti)) (first | exact ⟨hx5.1.drew, hx5.2.1, hx5.2.2.1, hx5.2.2.2.1, hx5.2.2.2.2.1, hx5.2.2.2.2.2⟩ | (refine keep5 hb ?_; assumption)) ((go_at_call 100; refine (hn _).mono ?_; rintro e w' ⟨rfl, hb⟩))
      all_goals
        go_wp2
        go_ret
        rename_i hq
        exact ⟨rfl, hq.1⟩

theorem ip_fit (n : Int) : n = n % 4294967296 ↔ 0 ≤ n ∧ n ≤ 4294967295 := by omega
theorem mac_fit (n : Int) : n = n % 281474976710656 ↔ 0 ≤ n ∧ n ≤ 281474976710655 := by omega

theorem amay_any (o fm fi tm ti : Int) (w : World) :
    Calls Tryz.prog 56 #[.agg #[.int .i64 o, .int .i64 fm, .int .i64 fi, .int .i64 tm, .int .i64 ti]] w fun e w' => e = .returned (.bool (mayA o fm fi tm ti)) ∧ Below w.heap.size w w' := by
  by_cases ho : o = 1 ∨ o = 2
  · by_cases hm : 0 ≤ fm ∧ fm ≤ 281474976710655
    · by_cases hg : fm / 1099511627776 % 2 = 0
      · apply amay_rest _ _ _ _ _ _ _ ho (macB_t hm) (grpB_f hg)
        by_cases h1 : fi = fi % 4294967296
        · by_cases h2 : tm = tm % 281474976710656
          · by_cases h3 : ti = ti % 4294967296
            · exact .inl ⟨mayA_t ⟨ho, hm, hg, (ip_fit _).1 h1, (mac_fit _).1 h2, (ip_fit _).1 h3⟩, h1, h2, h3⟩
            · exact .inr (.inr (.inr ⟨mayA_f fun h => h3 ((ip_fit _).2 h.2.2.2.2.2), h1, h2, h3⟩))
          · exact .inr (.inr (.inl ⟨mayA_f fun h => h2 ((mac_fit _).2 h.2.2.2.2.1), h1, h2⟩))
        · exact .inr (.inl ⟨mayA_f fun h => h1 ((ip_fit _).2 h.2.2.2.1), h1⟩)
      · rw [mayA_f (fun h => hg h.2.2.1)]
        exact amay_mac _ _ _ _ _ _ ho (.inr ⟨macB_t hm, grpB_t (by omega)⟩)
    · rw [mayA_f (fun h => hm h.2.1)]
      exact amay_mac _ _ _ _ _ _ ho (.inl (macB_f hm))
  · rw [mayA_f (fun h => ho h.1)]
    exact amay_op _ _ _ _ _ _ (fun h => ho (.inl h)) (fun h => ho (.inr h))

end Go.Proofs.YtkpdmgoldngdaaaGreatDoor.Eth.Arp

namespace Go.Proofs.YtkpdmgoldngdaaaGreatDoor.Eth.Arp
open Go.RowKit
set_option maxRecDepth 100000

theorem At.five {W : World} {b : Nat} {v0 v1 v2 v3 v4 : Value} (h : At W b #[v0, v1, v2, v3, v4]) : (W.cell? ⟨b, 0, none⟩ = some v0 ∧ W.cell? ⟨b, 1, none⟩ = some v1 ∧ W.cell? ⟨b, 2, none⟩ = some v2 ∧ W.cell? ⟨b, 3, none⟩ = some v3 ∧ W.cell? ⟨b, 4, none⟩ = some v4) ∧
    (W.frozen? ⟨b, 0, none⟩ = false ∧ W.frozen? ⟨b, 1, none⟩ = false ∧ W.frozen? ⟨b, 2, none⟩ = false ∧ W.frozen? ⟨b, 3, none⟩ = false ∧ W.frozen? ⟨b, 4, none⟩ = false) ∧ b < W.heap.size :=
  ⟨⟨(h.2 0 _ rfl).1, (h.2 1 _ rfl).1, (h.2 2 _ rfl).1, (h.2 3 _ rfl).1, (h.2 4 _ rfl).1⟩, ⟨(h.2 0 _ rfl).2, (h.2 1 _ rfl).2, (h.2 2 _ rfl).2, (h.2 3 _ rfl).2, (h.2 4 _ rfl).2⟩, h.1⟩
theorem At.box2 (w : World) (o : Obj) (vs : Array Value) (t : TypeId) : At ((w.alloc o).alloc (.cells vs t)) (w.heap.size + 1) vs := by have := At.box (w.alloc o) vs t; rwa [World.size_alloc] at this
theorem below5 {w W : World} {b : Nat} (h : Below w.heap.size w W) (hb : w.heap.size ≤ b) (v0 v1 v2 v3 v4 : Value) : Below w.heap.size w (((((W.setCell ⟨b, 0, none⟩ v0).setCell ⟨b, 1, none⟩ v1).setCell ⟨b, 2, none⟩ v2).setCell ⟨b, 3, none⟩ v3).setCell ⟨b, 4, none⟩ v4) :=
  ((((h.setCell hb _).setCell hb _).setCell hb _).setCell hb _).setCell hb _


theorem amay_t {o fm fi tm ti : Int} (h : mayA o fm fi tm ti = true) (w : World) : Calls Tryz.prog 56 #[.agg #[.int .i64 o, .int .i64 fm, .int .i64 fi, .int .i64 tm, .int .i64 ti]] w fun e w' => e = .returned (.bool true) ∧ Below w.heap.size w w' := by
  have := amay_any o fm fi tm ti w; rw [h] at this; exact this
theorem amay_f {o fm fi tm ti : Int} (h : mayA o fm fi tm ti = false) (w : World) : Calls Tryz.prog 56 #[.agg #[.int .i64 o, .int .i64 fm, .int .i64 fi, .int .i64 tm, .int .i64 ti]] w fun e w' => e = .returned (.bool false) ∧ Below w.heap.size w w' := by
  have := amay_any o fm fi tm ti w; rw [h] at this; exact this

end Go.Proofs.YtkpdmgoldngdaaaGreatDoor.Eth.Arp

namespace Go.Proofs.YtkpdmgoldngdaaaGreatDoor.Eth.Arp
open Go.RowKit
set_option maxRecDepth 100000

theorem ckd_t {o fm fi tm ti : Int} (h : mayA o fm fi tm ti = true) (w : World) :
    Calls Tryz.prog 55 #[.agg #[.int .i64 o, .int .i64 fm, .int .i64 fi, .int .i64 tm, .int .i64 ti]] w fun e w' => e = .returned (.tuple #[.agg #[.int .i64 o, .int .i64 fm, .int .i64 fi, .int .i64 tm, .int .i64 ti], .int .i64 0]) ∧ Below w.heap.size w w' := by
  have hA := (At.box w #[.int .i64 o, .int .i64 fm, .int .i64 fi, .int .i64 tm, .int .i64 ti] 25).later (bel1 _ (.cells #[.int .i64 0, .int .i64 0, .int .i64 0, .int .i64 0, .int .i64 0] 25))
  have hl := bt (bel1 w (.cells #[.int .i64 o, .int .i64 fm, .int .i64 fi, .int .i64 tm, .int .i64 ti] 25)) (bel1 _ (.cells #[.int .i64 0, .int .i64 0, .int .i64 0, .int .i64 0, .int .i64 0] 25))
  have hR := At.box2 w (.cells #[.int .i64 o, .int .i64 fm, .int .i64 fi, .int .i64 tm, .int .i64 ti] 25) #[.int .i64 0, .int .i64 0, .int .i64 0, .int .i64 0, .int .i64 0] 25
  go_enter Tryz.func55, Tryz.ntmps55
  go_wp2_with fail
  refine (amay_t h _).mono ?_
  rintro e w1 ⟨rfl, hb⟩
  have hl := bt hl hb
  obtain ⟨⟨c0, c1, c2, c3, c4⟩, -, -⟩ := (hA.later hb).five
  obtain ⟨⟨r0, r1, r2, r3, r4⟩, ⟨f0, f1, f2, f3, f4⟩, hlt⟩ := (hR.later hb).five
  clear hA hR hb
  go_wp2
  exact bodyPost_ret (v := .tuple #[.agg #[.int .i64 o, .int .i64 fm, .int .i64 fi, .int .i64 tm, .int .i64 ti], .int .i64 0]) (by simp [results, Tryz.results55, go_sem, r0, r1, r2, r3, r4]) rfl ⟨rfl, below5 hl (Nat.le_succ _) _ _ _ _ _⟩

theorem ckd_f {o fm fi tm ti : Int} (h : mayA o fm fi tm ti = false) (w : World) :
    Calls Tryz.prog 55 #[.agg #[.int .i64 o, .int .i64 fm, .int .i64 fi, .int .i64 tm, .int .i64 ti]] w fun e w' => e = .returned (.tuple #[.agg #[.int .i64 0, .int .i64 0, .int .i64 0, .int .i64 0, .int .i64 0], .int .i64 40]) ∧ Below w.heap.size w w' := by
  have hA := (At.box w #[.int .i64 o, .int .i64 fm, .int .i64 fi, .int .i64 tm, .int .i64 ti] 25).later (bel1 _ (.cells #[.int .i64 0, .int .i64 0, .int .i64 0, .int .i64 0, .int .i64 0] 25))
  have hl := bt (bel1 w (.cells #[.int .i64 o, .int .i64 fm, .int .i64 fi, .int .i64 tm, .int .i64 ti] 25)) (bel1 _ (.cells #[.int .i64 0, .int .i64 0, .int .i64 0, .int .i64 0, .int .i64 0] 25))
  have hR := At.box2 w (.cells #[.int .i64 o, .int .i64 fm, .int .i64 fi, .int .i64 tm, .int .i64 ti] 25) #[.int .i64 0, .int .i64 0, .int .i64 0, .int .i64 0, .int .i64 0] 25
  go_enter Tryz.func55, Tryz.ntmps55
  go_wp2_with fail
  refine (amay_f h _).mono ?_
  rintro e w1 ⟨rfl, hb⟩
  have hl := bt hl hb
  obtain ⟨⟨c0, c1, c2, c3, c4⟩, -, -⟩ := (hA.later hb).five
  obtain ⟨⟨r0, r1, r2, r3, r4⟩, ⟨f0, f1, f2, f3, f4⟩, hlt⟩ := (hR.later hb).five
  clear hA hR hb
  go_wp2
  exact bodyPost_ret (v := .tuple #[.agg #[.int .i64 0, .int .i64 0, .int .i64 0, .int .i64 0, .int .i64 0], .int .i64 40]) (by simp [results, Tryz.results55, go_sem, r0, r1, r2, r3, r4]) rfl ⟨rfl, below5 hl (Nat.le_succ _) _ _ _ _ _⟩

end Go.Proofs.YtkpdmgoldngdaaaGreatDoor.Eth.Arp

namespace Go.Proofs.YtkpdmgoldngdaaaGreatDoor.Eth.Arp
open Go.RowKit
set_option maxRecDepth 100000

def hdS : ByteArray := ⟨#[0, 1, 8, 0, 6, 4]⟩
end Go.Proofs.YtkpdmgoldngdaaaGreatDoor.Eth.Arp

namespace Go.Proofs.YtkpdmgoldngdaaaGreatDoor.Eth.Arp
open Go.RowKit
set_option maxRecDepth 100000
set_option linter.unusedVariables false
def aO (s : ByteArray) : Int := numS (s.extract 6 8)
def aFm (s : ByteArray) : Int := numS (s.extract 8 14)
def aFi (s : ByteArray) : Int := numS (s.extract 14 18)
def aTm (s : ByteArray) : Int := numS (s.extract 18 24)
def aTi (s : ByteArray) : Int := numS (s.extract 24 28)
def mayS (s : ByteArray) : Bool := mayA (aO s) (aFm s) (aFi s) (aTm s) (aTi s)
def preB (s : ByteArray) : Bool := (s.extract 0 6).toList == hdS.toList
def decA (s : ByteArray) : Bool := decide (28 ≤ s.size ∧ s.size ≤ 46) && preB s && mayS s
theorem decA_ways (s : ByteArray) : (decA s = false ∧ s.size < 28) ∨ (decA s = false ∧ 46 < s.size) ∨ ((28 ≤ s.size ∧ s.size ≤ 46) ∧ ((decA s = false ∧ preB s = false) ∨ preB s = true ∧ ((decA s = false ∧ mayS s = false) ∨ (decA s = true ∧ mayS s = true)))) := by
  unfold decA
  by_cases h1 : s.size < 28
  · exact .inl ⟨by rw [decide_eq_false (by omega)]; rfl, h1⟩
  · by_cases h2 : 46 < s.size
    · exact .inr (.inl ⟨by rw [decide_eq_false (by omega)]; rfl, h2⟩)
    · refine .inr (.inr ⟨⟨by omega, by omega⟩, ?_⟩)
      rw [decide_eq_true ⟨by omega, by omega⟩]
      cases preB s <;> cases mayS s <;> simp

theorem slpre_any (s p : ByteArray) (w : World) (hs : s.size ≤ maxLen) (h : p.size ≤ s.size) :
    Calls Tryz.prog 139 #[.string s, .string p] w fun e w' => e = .returned (.bool ((s.extract 0 p.size).toList == p.toList)) ∧ w' = w := by
  unfold maxLen at hs
  go_enter Tryz.func139, Tryz.ntmps139
  go_wp2
  go_ret
  exact ⟨rfl, rfl⟩
theorem spre_any (s p : ByteArray) (w : World) (hs : s.size ≤ maxLen) (h : p.size ≤ s.size) :
    Calls Tryz.prog 104 #[.string s, .string p] w fun e w' => e = .returned (.bool ((s.extract 0 p.size).toList == p.toList)) ∧ w' = w := by
  go_enter Tryz.func104, Tryz.ntmps104
  go_wp2_with fail
  refine (slpre_any _ _ _ hs h).mono ?_
  rintro e w1 ⟨rfl, rfl⟩
  go_wp2
  go_ret
  exact ⟨rfl, rfl⟩
theorem pre_any (s : ByteArray) (w : World) (hs : s.size ≤ maxLen) (h : 28 ≤ s.size) :
    Calls Tryz.prog 104 #[.string s, .string ⟨#[0, 1, 8, 0, 6, 4]⟩] w fun e w' => e = .returned (.bool (preB s)) ∧ w' = w := spre_any s ⟨#[0, 1, 8, 0, 6, 4]⟩ w hs (by show 6 ≤ s.size; omega)

theorem get_k (s : ByteArray) (off k : Int) (w : World) (hs : s.size ≤ maxLen) (h : 28 ≤ s.size) (hk : 1 ≤ k ∧ k ≤ 6) (ho : 0 ≤ off ∧ off + k ≤ 28) :
    Calls Tryz.prog 59 #[.string s, .int .i64 off, .int .i64 k] w fun e w' => e = .returned (.tuple #[.int .i64 (numS (s.extract off.toNat (off + k).toNat)), .int .i64 0]) ∧ Below w.heap.size w w' := by
  have hp : getB s.size off k = true := getB_t ⟨hk.1, hk.2, ho.1, by omega⟩
  have := get_any s off k w hs
  unfold getV at this
  rw [hp] at this
  exact this
theorem get_0 {s : ByteArray} (w : World) (hs : s.size ≤ maxLen) (h : 28 ≤ s.size) : Calls Tryz.prog 59 #[.string s, .int .i64 6, .int .i64 2] w fun e w' => e = .returned (.tuple #[.int .i64 (aO s), .int .i64 0]) ∧ Below w.heap.size w w' := get_k s 6 2 w hs h (by decide) (by decide)
theorem get_1 {s : ByteArray} (w : World) (hs : s.size ≤ maxLen) (h : 28 ≤ s.size) : Calls Tryz.prog 59 #[.string s, .int .i64 8, .int .i64 6] w fun e w' => e = .returned (.tuple #[.int .i64 (aFm s), .int .i64 0]) ∧ Below w.heap.size w w' := get_k s 8 6 w hs h (by decide) (by decide)
theorem get_2 {s : ByteArray} (w : World) (hs : s.size ≤ maxLen) (h : 28 ≤ s.size) : Calls Tryz.prog 59 #[.string s, .int .i64 14, .int .i64 4] w fun e w' => e = .returned (.tuple #[.int .i64 (aFi s), .int .i64 0]) ∧ Below w.heap.size w w' := get_k s 14 4 w hs h (by decide) (by decide)
theorem get_3 {s : ByteArray} (w : World) (hs : s.size ≤ maxLen) (h : 28 ≤ s.size) : Calls Tryz.prog 59 #[.string s, .int .i64 18, .int .i64 6] w fun e w' => e = .returned (.tuple #[.int .i64 (aTm s), .int .i64 0]) ∧ Below w.heap.size w w' := get_k s 18 6 w hs h (by decide) (by decide)
theorem get_4 {s : ByteArray} (w : World) (hs : s.size ≤ maxLen) (h : 28 ≤ s.size) : Calls Tryz.prog 59 #[.string s, .int .i64 24, .int .i64 4] w fun e w' => e = .returned (.tuple #[.int .i64 (aTi s), .int .i64 0]) ∧ Below w.heap.size w w' := get_k s 24 4 w hs h (by decide) (by decide)

set_option maxHeartbeats 1000000 in
theorem dec_n2 {s : ByteArray} (h : 28 ≤ s.size) (h2 : s.size ≤ 46) (q : preB s = true) (g : mayS s = false) (w : World) :
    Calls Tryz.prog 60 #[.string s] w fun e w' => e = .returned (.tuple #[.agg #[.int .i64 0, .int .i64 0, .int .i64 0, .int .i64 0, .int .i64 0], .int .i64 40]) ∧ Below w.heap.size w w' := by
  have hm : s.size ≤ maxLen := by unfold maxLen; omega
  have hl := bel1 w (.cells #[.int .i64 0, .int .i64 0, .int .i64 0, .int .i64 0, .int .i64 0] 25)
  have hR := At.box w #[.int .i64 0, .int .i64 0, .int .i64 0, .int .i64 0, .int .i64 0] 25
  go_enter Tryz.func60, Tryz.ntmps60
  go_wp2_with fail
  refine (pre_any _ _ hm h).mono ?_
  rw [q]
  rintro e w0 ⟨rfl, rfl⟩
  go_wp2_with fail
  refine (get_0 _ hm h).mono ?_
  rintro e w1 ⟨rfl, hb⟩
  have hl := bt hl hb
  have hR := hR.later hb
  clear hb
  go_wp2_with fail
  refine (get_1 _ hm h).mono ?_
  rintro e w2 ⟨rfl, hb⟩
  have hl := bt hl hb
  have hR := hR.later hb
  clear hb
  go_wp2_with fail
  refine (get_2 _ hm h).mono ?_
  rintro e w3 ⟨rfl, hb⟩
  have hl := bt hl hb
  have hR := hR.later hb
  clear hb
  go_wp2_with fail
  refine (get_3 _ hm h).mono ?_
  rintro e w4 ⟨rfl, hb⟩
  have hl := bt hl hb
  have hR := hR.later hb
  clear hb
  go_wp2_with fail
  refine (get_4 _ hm h).mono ?_
  rintro e w5 ⟨rfl, hb⟩
  have hl := bt hl hb
  have hR := hR.later hb
  clear hb
  go_wp2_with fail
  refine (ckd_f g _).mono ?_
  rintro e w6 ⟨rfl, hb⟩
  have hl := bt hl hb
  obtain ⟨⟨r0, r1, r2, r3, r4⟩, ⟨f0, f1, f2, f3, f4⟩, hlt⟩ := (hR.later hb).five
  clear hR hb
  go_wp2
  exact bodyPost_ret (v := .tuple #[.agg #[.int .i64 0, .int .i64 0, .int .i64 0, .int .i64 0, .int .i64 0], .int .i64 40]) (by simp [results, Tryz.results60, go_sem, r0, r1, r2, r3, r4]) rfl ⟨rfl, below5 hl (Nat.le_refl _) _ _ _ _ _⟩

set_option maxHeartbeats 1000000 in
theorem dec_y0 {s : ByteArray} (h : 28 ≤ s.size) (h2 : s.size ≤ 46) (q : preB s = true) (g : mayS s = true) (w : World) :
    Calls Tryz.prog 60 #[.string s] w fun e w' => e = .returned (.tuple #[.agg #[.int .i64 (aO s), .int .i64 (aFm s), .int .i64 (aFi s), .int .i64 (aTm s), .int .i64 (aTi s)], .int .i64 0]) ∧ Below w.heap.size w w' := by
  have hm : s.size ≤ maxLen := by unfold maxLen; omega
  have hl := bel1 w (.cells #[.int .i64 0, .int .i64 0, .int .i64 0, .int .i64 0, .int .i64 0] 25)
  have hR := At.box w #[.int .i64 0, .int .i64 0, .int .i64 0, .int .i64 0, .int .i64 0] 25
  go_enter Tryz.func60, Tryz.ntmps60
  go_wp2_with fail
  refine (pre_any _ _ hm h).mono ?_
  rw [q]
  rintro e w0 ⟨rfl, rfl⟩
  go_wp2_with fail
  refine (get_0 _ hm h).mono ?_
  rintro e w1 ⟨rfl, hb⟩
  have hl := bt hl hb
  have hR := hR.later hb
  clear hb
  go_wp2_with fail
  refine (get_1 _ hm h).mono ?_
  rintro e w2 ⟨rfl, hb⟩
  have hl := bt hl hb
  have hR := hR.later hb
  clear hb
  go_wp2_with fail
  refine (get_2 _ hm h).mono ?_
  rintro e w3 ⟨rfl, hb⟩
  have hl := bt hl hb
  have hR := hR.later hb
  clear hb
  go_wp2_with fail
  refine (get_3 _ hm h).mono ?_
  rintro e w4 ⟨rfl, hb⟩
  have hl := bt hl hb
  have hR := hR.later hb
  clear hb
  go_wp2_with fail
  refine (get_4 _ hm h).mono ?_
  rintro e w5 ⟨rfl, hb⟩
  have hl := bt hl hb
  have hR := hR.later hb
  clear hb
  go_wp2_with fail
  refine (ckd_t g _).mono ?_
  rintro e w6 ⟨rfl, hb⟩
  have hl := bt hl hb
  obtain ⟨⟨r0, r1, r2, r3, r4⟩, ⟨f0, f1, f2, f3, f4⟩, hlt⟩ := (hR.later hb).five
  clear hR hb
  go_wp2
  exact bodyPost_ret (v := .tuple #[.agg #[.int .i64 (aO s), .int .i64 (aFm s), .int .i64 (aFi s), .int .i64 (aTm s), .int .i64 (aTi s)], .int .i64 0]) (by simp [results, Tryz.results60, go_sem, r0, r1, r2, r3, r4]) rfl ⟨rfl, below5 hl (Nat.le_refl _) _ _ _ _ _⟩

theorem decA_parts {s : ByteArray} (h : decA s = true) : 28 ≤ s.size ∧ s.size ≤ 46 ∧ preB s = true ∧ mayS s = true := by
  rcases decA_ways s with ⟨a, -⟩ | ⟨a, -⟩ | ⟨a, ⟨c, -⟩ | ⟨b, ⟨c, -⟩ | ⟨-, c⟩⟩⟩
  · rw [h] at a; cases a
  · rw [h] at a; cases a
  · rw [h] at c; cases c
  · rw [h] at c; cases c
  · exact ⟨a.1, a.2, b, c⟩
theorem dec_y {s : ByteArray} (h : decA s = true) (w : World) :
    Calls Tryz.prog 60 #[.string s] w fun e w' => e = .returned (.tuple #[.agg #[.int .i64 (aO s), .int .i64 (aFm s), .int .i64 (aFi s), .int .i64 (aTm s), .int .i64 (aTi s)], .int .i64 0]) ∧ Below w.heap.size w w' := by
  obtain ⟨a, b, c, d⟩ := decA_parts h
  exact dec_y0 a b c d w
end Go.Proofs.YtkpdmgoldngdaaaGreatDoor.Eth.Arp
