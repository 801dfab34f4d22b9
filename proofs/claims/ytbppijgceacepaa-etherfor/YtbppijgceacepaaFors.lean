/- The contracts of For of package ether and of the document's, and of the comparison of two lists of numbers: each returns just the values named here; nothing that was there turns. -/
import Derived.Test.YtbppijgceacepaaBytes
import Derived.Deep.QuietTactic
import Derived.BigQuiet
namespace Go.Proofs.Ytbppijgceacepaa
open Go.RowKit

theorem below_draws {B : Nat} {a w : World} (h : Below B a w) (n : Nat) : Below B a (w.drewN n) := h.trans ⟨rfl, rfl, rfl, Nat.le_refl _, fun _ _ => rfl⟩

/-- A list of numbers: it has none, or it leads to a row of cells that hold them. -/
def Row (w : World) (a : Option Addr) (zs : List Int) : Prop :=
  zs = [] ∨ ∃ b off, a = some ⟨b, off, none⟩ ∧ ∀ j, j < zs.length → w.cell? ⟨b, off + j, none⟩ = some (.int .i64 (zs.getD j 0))
theorem Row.later {w x : World} {a : Option Addr} {zs : List Int} (h : Row w a zs) (hb : Below w.heap.size w x) : Row x a zs := by
  rcases h with h | ⟨b, off, h, hc⟩
  · exact Or.inl h
  · exact Or.inr ⟨b, off, h, fun j hj => Ytbppijgceacepaa.later hb (hc j hj)⟩

def hasB (t : Int) (zs : List Int) : Bool := zs.any fun z => t == z
theorem hasB_nil (t : Int) : hasB t [] = false := rfl
theorem hasB_step (t : Int) (zs : List Int) (k : Nat) (h : k < zs.length) : hasB t (zs.take (k + 1)) = (hasB t (zs.take k) || t == zs.getD k 0) := by
  unfold hasB
  rw [List.take_succ_eq_append_getElem h, List.any_append]
  simp only [List.any_cons, List.any_nil, Bool.or_false, List.getD, List.getElem?_eq_getElem h, Option.getD_some]
theorem hasB_in (t : Int) (zs : List Int) (k : Nat) (h : k < zs.length) (e : t = zs.getD k 0) : hasB t zs = true := by
  unfold hasB
  rw [List.any_eq_true]
  exact ⟨zs[k], List.getElem_mem h, by rw [e]; simp [List.getD, List.getElem?_eq_getElem h]⟩
def forB (t f k : Int) (z : Nat) (zs : List Int) : Bool := if mayB t f k z = true then (hasB t zs || t == 281474976710655) else false

set_option maxHeartbeats 1000000 in
theorem for_any (t f k : Int) (d : ByteArray) (a : Option Addr) (cap : Nat) (zs : List Int) (w : World) (hd : d.size ≤ maxLen) (hbig : zs.length ≤ 9223372036854775807) (hr : Row w a zs) :
    Calls Try.prog 12 #[.agg #[.int .i64 t, .int .i64 f, .int .i64 k, .string d], .slice a zs.length cap] w fun e w' => e = .returned (.bool (forB t f k d.size zs)) ∧ Below w.heap.size w w' := by
  obtain ⟨c0, -⟩ := box4 w (.int .i64 t) (.int .i64 f) (.int .i64 k) (.string d) 23
  have hbel := bel1 w
  unfold forB
  rcases Bool.eq_false_or_eq_true (mayB t f k d.size) with h | h
  · rw [h, if_pos rfl]
    rcases hr with rfl | ⟨b, off, rfl, hc⟩
    · rw [hasB_nil, Bool.false_or]
      go_enter Try.func12, Try.ntmps12
      go_wp2_with fail
      refine (may_any _ _ _ _ _ hd).mono ?_
      rintro e w1 ⟨rfl, hb1⟩
      have c0' := later hb1 c0
      go_wp2
      refine wp_loop_rounds 1 ?_
      rw [rounds_succ]
      go_wp2
      go_ret
      exact ⟨rfl, bt (hbel _) hb1⟩
    · have HC : Hid (∀ j, j < zs.length → w.cell? ⟨b, off + j, none⟩ = some (.int .i64 (zs.getD j 0))) := hc
      clear hc
      go_enter Try.func12, Try.ntmps12
      go_wp2_with fail
      refine (may_any _ _ _ _ _ hd).mono ?_
      rintro e w1 ⟨rfl, hb1⟩
      have c0' := later hb1 c0
      have hl := bt (hbel _) hb1
      clear c0 hb1 hbel
      go_wp2
      go_loop [12] (fun i => ∃ k : Nat, k ≤ zs.length ∧ i = .int .i64 k ∧ hasB t (zs.take k) = false) (fun i => zs.length - (intOf i).toNat)
      case atStart => exact ⟨0, Nat.zero_le _, rfl, by rw [List.take_zero]; rfl⟩
      case round =>
        obtain ⟨k, hk, rfl, hno⟩ := hrel
        by_cases hlt : k < zs.length
        · have hcell := later hl (HC.out k hlt)
          have HS : Hid (hasB t (zs.take (k + 1)) = (hasB t (zs.take k) || t == zs.getD k 0)) := hasB_step t zs k hlt
          by_cases e : t = zs.getD k 0
          · have HI : Hid (hasB t zs = true) := hasB_in t zs k hlt e
            rw [← e] at hcell
            clear HS hno e
            go_wp2
            go_ret
            exact ⟨by rw [HI.out]; rfl, hl⟩
          · have HN : Hid (hasB t (zs.take k) = false) := hno
            have HE : Hid ((t == zs.getD k 0) = false) := by show _ = _; simpa using e
            generalize zs.getD k 0 = z at *
            clear hno
            go_wp2
            go_round
            case rel => exact ⟨k + 1, by omega, by go_num, by rw [HS.out, HN.out, HE.out]; rfl⟩
            case measure => simp [intOf]; omega
        · have hk' : k = zs.length := by omega
          subst hk'
          rw [List.take_length] at hno
          have HN : Hid (hasB t zs = false) := hno
          clear hno
          go_wp2
          go_ret
          exact ⟨by rw [HN.out]; rfl, hl⟩
  · rw [h, if_neg (by simp)]
    go_enter Try.func12, Try.ntmps12
    go_wp2_with fail
    refine (may_any _ _ _ _ _ hd).mono ?_
    rintro e w1 ⟨rfl, hb1⟩
    go_wp2
    go_ret
    exact ⟨rfl, bt (hbel _) hb1⟩

set_option maxHeartbeats 1000000 in
theorem rfor_any (t f k : Int) (d : ByteArray) (a : Option Addr) (cap : Nat) (zs : List Int) (w : World) (hd : d.size ≤ maxLen) (hbig : zs.length ≤ 9223372036854775807) (hr : Row w a zs) :
    Calls Try.prog 13 #[.agg #[.int .i64 t, .int .i64 f, .int .i64 k, .string d], .slice a zs.length cap] w fun e w' => e = .returned (.bool (forB t f k d.size zs)) ∧ Below w.heap.size w w' := by
  obtain ⟨c0, -⟩ := box4 w (.int .i64 t) (.int .i64 f) (.int .i64 k) (.string d) 23
  have hbel := bel1 w
  unfold forB
  rcases Bool.eq_false_or_eq_true (mayB t f k d.size) with h | h
  · rw [h, if_pos rfl]
    have hk0 := codeE_t
    rcases hr with rfl | ⟨b, off, rfl, hc⟩
    · rw [hasB_nil, Bool.false_or]
      go_enter Try.func13, Try.ntmps13
      go_wp2_with fail
      refine (rcheck_any _ _ _ _ _ hd).mono ?_
      rw [h]
      rintro e w1 ⟨rfl, hb1⟩
      have c0' := later hb1 c0
      go_wp2
      refine wp_loop_rounds 1 ?_
      rw [rounds_succ]
      go_wp2
      go_ret
      exact ⟨rfl, bt (hbel _) hb1⟩
    · have HC : Hid (∀ j, j < zs.length → w.cell? ⟨b, off + j, none⟩ = some (.int .i64 (zs.getD j 0))) := hc
      clear hc
      go_enter Try.func13, Try.ntmps13
      go_wp2_with fail
      refine (rcheck_any _ _ _ _ _ hd).mono ?_
      rw [h]
      rintro e w1 ⟨rfl, hb1⟩
      have C0 : Hid (w1.cell? ⟨w.heap.size, 0, none⟩ = some (.int .i64 t)) := later hb1 c0
      have hl := bt (hbel _) hb1
      clear c0 hb1 hbel
      go_wp2
      go_loopw [5] (fun i wr => ∃ k : Nat, k ≤ zs.length ∧ i = .int .i64 k ∧ hasB t (zs.take k) = false ∧ Below w1.heap.size w1 wr) (fun i _ => zs.length - (intOf i).toNat)
      case atStart => exact ⟨0, Nat.zero_le _, rfl, by rw [List.take_zero]; rfl, Below.refl _ _⟩
      case round =>
        obtain ⟨k, hk, rfl, hno, hbr⟩ := hrel
        have c0' := later hbr C0.out
        by_cases hlt : k < zs.length
        · have hcell := later hbr (later hl (HC.out k hlt))
          have HS : Hid (hasB t (zs.take (k + 1)) = (hasB t (zs.take k) || t == zs.getD k 0)) := hasB_step t zs k hlt
          have hki : (k : Int) < (zs.length : Int) := by omega
          have hk1 : (0 : Int) ≤ (k : Int) := by omega
          by_cases e : t = zs.getD k 0
          · have HI : Hid (hasB t zs = true) := hasB_in t zs k hlt e
            rw [← e] at hcell
            clear HS hno e
            go_wp2
            go_quiet (fail)
            go_wp2
            go_ret
            exact ⟨by rw [HI.out]; rfl, below_draws (bt hl hbr) _⟩
          · have HN : Hid (hasB t (zs.take k) = false) := hno
            have HE : Hid ((t == zs.getD k 0) = false) := by show _ = _; simpa using e
            have e' : ¬ zs.getD k 0 = t := fun q => e q.symm
            have e2 : (zs.getD k 0 == t) = false := by simpa using e'
            generalize zs.getD k 0 = z at *
            clear hno
            go_wp2
            go_quiet (fail)
            go_wp2
            go_roundw
            case rel => exact ⟨k + 1, by omega, by go_num, by rw [HS.out, HN.out, HE.out]; rfl, below_draws hbr _⟩
            case measure => simp [intOf]; omega
        · have hk' : k = zs.length := by omega
          subst hk'
          rw [List.take_length] at hno
          have HN : Hid (hasB t zs = false) := hno
          clear hno
          go_wp2
          go_ret
          exact ⟨by rw [HN.out]; rfl, bt hl hbr⟩
  · rw [h, if_neg (by simp)]
    have hk0 := codeE_f
    go_enter Try.func13, Try.ntmps13
    go_wp2_with fail
    refine (rcheck_any _ _ _ _ _ hd).mono ?_
    rw [h]
    rintro e w1 ⟨rfl, hb1⟩
    go_wp2
    go_ret
    exact ⟨rfl, bt (hbel _) hb1⟩

theorem same_any (a1 : Option Addr) (c1 : Nat) (a2 : Option Addr) (c2 : Nat) (zs : List Int) (w : World) (hbig : zs.length ≤ 9223372036854775807) (h1 : Row w a1 zs) (h2 : Row w a2 zs) :
    Calls Try.prog 26 #[.slice a1 zs.length c1, .slice a2 zs.length c2] w fun e w' => e = .returned (.bool true) ∧ Below w.heap.size w w' := by
  rcases h1 with rfl | ⟨b1, o1, rfl, hc1⟩
  · go_enter Try.func26, Try.ntmps26
    go_wp2
    refine wp_loop_rounds 1 ?_
    rw [rounds_succ]
    go_wp2
    go_ret
    exact ⟨rfl, Below.refl _ _⟩
  · rcases h2 with rfl | ⟨b2, o2, rfl, hc2⟩
    · go_enter Try.func26, Try.ntmps26
      go_wp2
      refine wp_loop_rounds 1 ?_
      rw [rounds_succ]
      go_wp2
      go_ret
      exact ⟨rfl, Below.refl _ _⟩
    · have H1 : Hid (∀ j, j < zs.length → w.cell? ⟨b1, o1 + j, none⟩ = some (.int .i64 (zs.getD j 0))) := hc1
      have H2 : Hid (∀ j, j < zs.length → w.cell? ⟨b2, o2 + j, none⟩ = some (.int .i64 (zs.getD j 0))) := hc2
      clear hc1 hc2
      go_enter Try.func26, Try.ntmps26
      go_wp2
      go_loopw [5] (fun i wr => ∃ k : Nat, k ≤ zs.length ∧ i = .int .i64 k ∧ Below w.heap.size w wr) (fun i _ => zs.length - (intOf i).toNat)
      case atStart => exact ⟨0, Nat.zero_le _, rfl, Below.refl _ _⟩
      case round =>
        obtain ⟨k, hk, rfl, hbel⟩ := hrel
        by_cases hlt : k < zs.length
        · have g1 := later hbel (H1.out k hlt)
          have g2 := later hbel (H2.out k hlt)
          have hki : (k : Int) < (zs.length : Int) := by omega
          have hk0 : (0 : Int) ≤ (k : Int) := by omega
          generalize zs.getD k 0 = p at *
          go_wp2
          go_quiet (fail)
          go_wp2
          go_roundw
          case rel => exact ⟨k + 1, by omega, by go_num, below_draws hbel _⟩
          case measure => simp [intOf]; omega
        · go_wp2
          go_ret
          exact ⟨rfl, hbel⟩
end Go.Proofs.Ytbppijgceacepaa
