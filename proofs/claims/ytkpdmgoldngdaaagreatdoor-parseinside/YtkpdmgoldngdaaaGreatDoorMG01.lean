/- the texts Plain, Calls, Text, More, SeqCalls, Sums, Turns, FactsC, FactsF, in part, merged by program -/
import Derived.Test.YtkpdmgoldngdaaaGreatDoorRows
import Derived.WalkKit
import Derived.WalkSpells
import Derived.LoopN
import Derived.RegionTactic
import Derived.Below
import Derived.Laws.Tables
import Derived.Great.BuildSlice
import Derived.Test.YtkpdmgoldngdaaaGreatDoorMA01
import Derived.Test.YtkpdmgoldngdaaaGreatDoorMD01
namespace Go.Proofs.YtkpdmgoldngdaaaGreatDoor
open Go.RowKit
set_option maxRecDepth 100000
theorem foldV_add (a b : Int) (ha : 0 ≤ a) (hb : 0 ≤ b) : foldV (foldV a + b) = foldV (a + b) := by
  unfold foldV
  by_cases h : a = 0
  · simp [h]
  · rw [if_neg h, if_neg (by omega), if_neg (by omega)]
    omega

end Go.Proofs.YtkpdmgoldngdaaaGreatDoor

namespace Go.Proofs.YtkpdmgoldngdaaaGreatDoor
open Go.RowKit
set_option maxRecDepth 100000
theorem rfold_any (n : Int) (w : World) (h0 : 0 ≤ n) (h1 : n ≤ 9223372036854775807) :
    Calls Tryz.prog 141 #[.int .i64 n] w fun e w' => e = .returned (.int .i64 (foldV n)) ∧ w' = w := by
  go_enter Tryz.func141, Tryz.ntmps141
  go_wp2
  go_loop [0] (fun t => ∃ m : Int, 0 ≤ m ∧ m ≤ 9223372036854775807 ∧ t = .int .i64 m ∧ Hid (foldV m = foldV n)) (fun t => (intOf t).toNat)
  case atStart => exact ⟨n, h0, h1, rfl, rfl⟩
  case round =>
    obtain ⟨m, hm0, hm1, rfl, HM⟩ := hrel
    by_cases hlt : 65535 < m
    · go_wp2
      go_round
      case rel => exact ⟨m / 65536 + m % 65536, by omega, by omega, rfl, (foldV_step m hlt).trans HM.out⟩
      case measure => simp [intOf]; omega
    · go_wp2
      go_ret
      exact ⟨ret_int (by rw [← HM.out, foldV_small m hm0 (by omega)]), rfl⟩

theorem rsum_any (s : ByteArray) (w : World) (hs : s.size ≤ maxLen) :
    Calls Tryz.prog 110 #[.string s] w fun e w' => e = .returned (.int .i64 (sumS s)) ∧ w' = w := by
  unfold maxLen at hs
  go_enter Tryz.func110, Tryz.ntmps110
  go_wp2
  go_loop [3, 4] (fun n i => ∃ k : Nat, k ≤ s.size ∧ i = .int .i64 k ∧ n = .int .i64 (foldV (ws true (s.data.toList.take k)))) (fun _ i => s.size - (intOf i).toNat)
  case atStart => exact ⟨0, Nat.zero_le _, rfl, rfl⟩
  case round =>
    obtain ⟨k, hk, rfl, rfl⟩ := hrel
    have hd := foldV_bd (ws true (s.data.toList.take k))
    have hw := (ws_bd true (s.data.toList.take k)).1
    by_cases hlt : k < s.size
    · have hts := take_snoc s k hlt
      have hlen : (s.data.toList.take k).length = k := by rw [List.length_take]; exact Nat.min_eq_left (Nat.le_of_lt hlt)
      have hb : (s[k].toNat : Int) < 256 := by have := s[k].toNat_lt; omega
      by_cases hp : k % 2 = 0
      · have HS : Hid (foldV (ws true (s.data.toList.take (k + 1))) = foldV (foldV (ws true (s.data.toList.take k)) + 256 * (s[k].toNat : Int))) := by
          show _ = _
          rw [hts, ws_snoc, hlen, if_pos (by simp [turnB, hp]), foldV_add _ _ hw (by omega)]
        have hpi : ((k : Int) % 2 == 0) = true := by simp; omega
        clear hts hlen hw
        generalize hF : foldV (ws true (s.data.toList.take k)) = F at *
        go_wp2_with (go_at_call 141; refine (rfold_any _ _ (by omega) (by omega)).mono ?_; rintro e w' ⟨rfl, rfl⟩)
        go_round
        case rel => exact ⟨k + 1, by omega, by go_num, by rw [HS.out]⟩
        case measure => simp [intOf]; omega
      · have HS : Hid (foldV (ws true (s.data.toList.take (k + 1))) = foldV (foldV (ws true (s.data.toList.take k)) + (s[k].toNat : Int))) := by
          show _ = _
          rw [hts, ws_snoc, hlen, if_neg (by simp [turnB, hp]), foldV_add _ _ hw (by omega)]
        have hpi : ((k : Int) % 2 == 0) = false := by simp; omega
        clear hts hlen hw
        generalize hF : foldV (ws true (s.data.toList.take k)) = F at *
        go_wp2_with (go_at_call 141; refine (rfold_any _ _ (by omega) (by omega)).mono ?_; rintro e w' ⟨rfl, rfl⟩)
        go_round
        case rel => exact ⟨k + 1, by omega, by go_num, by rw [HS.out]⟩
        case measure => simp [intOf]; omega
    · have hk' : k = s.size := by omega
      subst hk'
      go_wp2
      go_ret
      exact ⟨ret_int (by unfold sumS missV; rw [List.take_of_length_le (by simp)]), rfl⟩

end Go.Proofs.YtkpdmgoldngdaaaGreatDoor

namespace Go.Proofs.YtkpdmgoldngdaaaGreatDoor
open Go.RowKit
set_option maxRecDepth 100000
theorem rtext_any (n : Int) (k : Nat) (w : World) (k0 : 1 ≤ k) (k1 : k ≤ 6) :
    Calls Tryz.prog 120 #[.int .i64 n, .int .i64 k] w fun e w' => e = .returned (.string (txt n k)) ∧ Below w.heap.size w w' := by
  obtain ⟨i0, hi, hz0, hz1, hz2⟩ := info_parts Tryz.info5
  go_enter Tryz.func120, Tryz.ntmps120
  go_wp2
  go_loopw [5, 6] (fun v i wr => ∃ j : Nat, j ≤ k ∧ i = .int .i64 ((k : Int) - 1 - j) ∧ wr.ownsRow w.heap.size 5 1 v j (((txtL n k).take j).map cellB) ∧ Below w.heap.size w wr) (fun _ i _ => (intOf i + 1).toNat)
  case atStart => exact ⟨0, Nat.zero_le _, by go_num, World.ownsRow_nil _ _ _ _, Below.refl _ _⟩
  case round =>
    obtain ⟨j, hj, rfl, hown', hbel⟩ := hrel
    by_cases hlt : j < k
    · go_wp2_with (first | (at_builtin; refine wpList_append_own _ rfl _ _ 153 rfl w.heap.size 5 i0 (.int .u8 0) 1 1 Tryz.underlying153 hi hz0 hz1 hz2 rfl (by decide) _ _ _ rfl (hown'.alloc _) ⟨wr.heap.size, 0, none⟩ 1 1 [.int .u8 (n / 2 ^ (8 * (k - 1 - j)) % 256)] rfl rfl (cell_one_new _ _ _) ?c2 ?c3 ?c4 ?c5 ?_) | go_in)
      case c2 => intro u hu; simp at hu; subst hu; rfl
      case c3 => unfold maxLen; omega
      case c4 => omega
      case c5 => have := hbel.size; simp; omega
      intro v' w1 hown2 hgrow hn2
      have hb2 : Below w.heap.size w w1 := (hbel.alloc hbel.size _).grown hgrow (by have := hbel.size; simp; omega) (fun g hg => (hown'.lt g hg).1)
      have hown3 : w1.ownsRow w.heap.size 5 1 v' (j + 1) (((txtL n k).take (j + 1)).map cellB) := by
        rw [txtL_take_succ n k j hlt, List.map_append]
        have e : [byteAt n (k - 1 - j)].map cellB = [.int .u8 (n / 2 ^ (8 * (k - 1 - j)) % 256)] := by simp [cellB, byteAt_toNat]
        rw [e, List.map_take]
        exact hown2
      clear hown2 hgrow hn2 hown' hbel
      go_wp2
      go_roundw
      case rel => exact ⟨j + 1, by omega, by go_num, hown3, hb2⟩
      case measure => simp [intOf]; omega
    · have hj' : j = k := by omega
      subst hj'
      rw [List.take_of_length_le (by rw [txtL_len]; exact Nat.le_refl _)] at hown'
      have h2 := hown'.2
      rcases h2 with ⟨_, h⟩ | ⟨g, cap, cur, rfl, -⟩
      · omega
      have hcv := run_convert_bytes_back (P := Tryz.prog) wr 153 9 5 ⟨g, 0, none⟩ cap (txtL n j) Tryz.underlying153 Tryz.underlying5 Tryz.underlying9 (by
        intro i hi
        have hil : i < j := by rw [txtL_len] at hi; exact hi
        have := hown'.cellAt i (by omega)
        rw [map_cellB_at _ i hi] at this
        rw [Addr.add_lit, Nat.zero_add]
        exact this)
      rw [txtL_len] at hcv
      clear hown'
      go_wp2
      go_ret
      exact ⟨rfl, hbel⟩
end Go.Proofs.YtkpdmgoldngdaaaGreatDoor

namespace Go.Proofs.YtkpdmgoldngdaaaGreatDoor
open Go.RowKit
set_option maxRecDepth 100000
theorem rcheck_any (a : Int) (w : World) : Calls Tryz.prog 75 #[.int .i64 a] w fun e w' => e = .returned (.int .i64 (codeB (!outB a 0 4294967295))) ∧ w' = w := by
  by_cases h : a < 0
  · rw [outB_t (Or.inl h)]
    go_enter Tryz.func75, Tryz.ntmps75
    go_wp2
    go_ret
    exact ⟨rfl, rfl⟩
  · by_cases h2 : 4294967295 < a
    · rw [outB_t (Or.inr h2)]
      go_enter Tryz.func75, Tryz.ntmps75
      go_wp2
      go_ret
      exact ⟨rfl, rfl⟩
    · rw [outB_f (by omega)]
      go_enter Tryz.func75, Tryz.ntmps75
      go_wp2
      go_ret
      exact ⟨rfl, rfl⟩

theorem num_any (s : ByteArray) (w : World) (hs : s.size ≤ 6) :
    Calls Tryz.prog 62 #[.string s] w fun e w' => e = .returned (.int .i64 (numS s)) ∧ w' = w := by
  go_enter Tryz.func62, Tryz.ntmps62
  go_wp2
  go_loop [3, 4] (fun n i => ∃ k : Nat, k ≤ s.size ∧ i = .int .i64 k ∧ n = .int .i64 (numL (s.data.toList.take k))) (fun _ i => s.size - (intOf i).toNat)
  case atStart => exact ⟨0, Nat.zero_le _, rfl, rfl⟩
  case round =>
    obtain ⟨k, hk, rfl, rfl⟩ := hrel
    by_cases hlt : k < s.size
    · have hd := (numL_bd (s.data.toList.take k)).1
      have hd2 := numL_small (s.data.toList.take k) (by rw [List.length_take]; omega)
      have hts := take_snoc s k hlt
      have hb : (s[k].toNat : Int) < 256 := by have := s[k].toNat_lt; omega
      have HS : Hid (numL (s.data.toList.take (k + 1)) = numL (s.data.toList.take k) * 256 + (s[k].toNat : Int)) := by
        show _ = _
        rw [hts, numL_snoc]
      clear hts
      generalize numL (s.data.toList.take k) = F at *
      go_wp2
      go_round
      case rel => exact ⟨k + 1, by omega, by go_num, by rw [HS.out]⟩
      case measure => simp [intOf]; omega
    · have hk' : k = s.size := by omega
      subst hk'
      rw [take_all]
      go_wp2
      go_ret
      exact ⟨rfl, rfl⟩

end Go.Proofs.YtkpdmgoldngdaaaGreatDoor

namespace Go.Proofs.YtkpdmgoldngdaaaGreatDoor
open Go.RowKit
set_option maxRecDepth 100000
theorem seq_rcheck_any (a : Int) (w : World) : Calls Tryz.prog 75 #[.int .i64 a] w fun e w' => e = .returned (.int .i64 (codeOf (numB a))) ∧ w' = w := by
  cases h : numB a
  · rcases numB_f h with h0 | h0 <;> clear h
    all_goals
      go_enter Tryz.func75, Tryz.ntmps75
      go_wp2
      go_ret
      exact ⟨rfl, rfl⟩
  · obtain ⟨h0, h1⟩ := numB_t h; clear h
    go_enter Tryz.func75, Tryz.ntmps75
    go_wp2
    go_ret
    exact ⟨rfl, rfl⟩

end Go.Proofs.YtkpdmgoldngdaaaGreatDoor

namespace Go.Proofs.YtkpdmgoldngdaaaGreatDoor
open Go.RowKit
set_option maxRecDepth 100000
theorem rwhole_any (s : ByteArray) (w : World) (hs : s.size ≤ maxLen) :
    Calls Tryz.prog 66 #[.string s] w fun e w' => e = .returned (.bool (sumS s == 0)) ∧ w' = w := by
  go_enter Tryz.func66, Tryz.ntmps66
  go_wp2_with (first | (go_at_call 110; refine (rsum_any _ _ hs).mono ?_; rintro e w' ⟨rfl, rfl⟩))
  go_ret
  exact ⟨rfl, rfl⟩
end Go.Proofs.YtkpdmgoldngdaaaGreatDoor

namespace Go.Proofs.YtkpdmgoldngdaaaGreatDoor
open Go.RowKit
set_option maxRecDepth 100000
set_option maxHeartbeats 1000000 in
theorem rpseudo_any (f t p l : Int) (w : World) :
    Calls Tryz.prog 76 #[.int .i64 f, .int .i64 t, .int .i64 p, .int .i64 l] w fun e w' => e = .returned (.tuple #[.string (pseuV f t p l), .int .i64 (codeB (pseuB f t p l))]) ∧ Below w.heap.size w w' := by
  unfold pseuV pseuB
  have c1 : codeB (!true) = 1 := rfl
  have c0 : codeB (!false) = 0 := rfl
  rcases out_cases f 0 4294967295 with ⟨h1, _⟩ | ⟨h1, f0, f1⟩
  · have k1 : codeB (!outB f 0 4294967295) = 1 := by rw [h1]; rfl
    rw [h1]
    simp
    clear h1
    go_enter Tryz.func76, Tryz.ntmps76
    go_wp2_with (first | (go_at_call 75; refine (rcheck_any _ _).mono ?_; rw [k1]; rintro e w' ⟨rfl, rfl⟩))
    go_ret2
    exact ⟨rfl, Below.refl _ _⟩
  · have k1 : codeB (!outB f 0 4294967295) = 0 := by rw [h1]; rfl
    rcases out_cases t 0 4294967295 with ⟨h2, _⟩ | ⟨h2, t0, t1⟩
    · have k2 : codeB (!outB t 0 4294967295) = 1 := by rw [h2]; rfl
      rw [h1, h2]
      simp
      clear h1 h2
      go_enter Tryz.func76, Tryz.ntmps76
      go_wp2_with fail
      refine (rcheck_any _ _).mono ?_
      rw [k1]; rintro e w' ⟨rfl, rfl⟩
      go_wp2_with fail
      refine (rcheck_any _ _).mono ?_
      rw [k2]; rintro e w' ⟨rfl, rfl⟩
      go_wp2
      go_ret2
      exact ⟨rfl, Below.refl _ _⟩
    · have k2 : codeB (!outB t 0 4294967295) = 0 := by rw [h2]; rfl
      rcases out_cases p 0 255 with ⟨h3, h3'⟩ | ⟨h3, p0, p1⟩
      · rw [h1, h2, h3]
        simp
        clear h1 h2 h3
        rcases h3' with h | h
        all_goals
          go_enter Tryz.func76, Tryz.ntmps76
          go_wp2_with fail
          refine (rcheck_any _ _).mono ?_
          rw [k1]; rintro e w' ⟨rfl, rfl⟩
          go_wp2_with fail
          refine (rcheck_any _ _).mono ?_
          rw [k2]; rintro e w' ⟨rfl, rfl⟩
          go_wp2
          go_ret2
          exact ⟨rfl, Below.refl _ _⟩
      · rcases out_cases l 0 65535 with ⟨h4, h4'⟩ | ⟨h4, l0, l1⟩
        · rw [h1, h2, h3, h4]
          simp
          clear h1 h2 h3 h4
          rcases h4' with h | h
          all_goals
            go_enter Tryz.func76, Tryz.ntmps76
            go_wp2_with fail
            refine (rcheck_any _ _).mono ?_
            rw [k1]; rintro e w' ⟨rfl, rfl⟩
            go_wp2_with fail
            refine (rcheck_any _ _).mono ?_
            rw [k2]; rintro e w' ⟨rfl, rfl⟩
            go_wp2
            go_ret2
            exact ⟨rfl, Below.refl _ _⟩
        · rw [h1, h2, h3, h4]
          simp
          clear h1 h2 h3 h4
          have z1 := txt_size f 4
          have z2 := txt_size t 4
          have z3 := txt_size p 2
          have z4 := txt_size l 2
          go_enter Tryz.func76, Tryz.ntmps76
          go_wp2_with fail
          refine (rcheck_any _ _).mono ?_
          rw [k1]; rintro e w' ⟨rfl, rfl⟩
          go_wp2_with fail
          refine (rcheck_any _ _).mono ?_
          rw [k2]; rintro e w' ⟨rfl, rfl⟩
          go_wp2_with fail
          refine (rtext_any _ 4 _ (by decide) (by decide)).mono ?_
          rintro e w1 ⟨rfl, b1⟩
          go_wp2_with fail
          refine (rtext_any _ 4 _ (by decide) (by decide)).mono ?_
          rintro e w2 ⟨rfl, b2⟩
          go_wp2_with fail
          refine (rtext_any _ 2 _ (by decide) (by decide)).mono ?_
          rintro e w3 ⟨rfl, b3⟩
          go_wp2_with fail
          refine (rtext_any _ 2 _ (by decide) (by decide)).mono ?_
          rintro e w4 ⟨rfl, b4⟩
          go_wp2
          go_ret2
          exact ⟨rfl, bt (bt (bt b1 b2) b3) b4⟩
end Go.Proofs.YtkpdmgoldngdaaaGreatDoor

namespace Go.Proofs.YtkpdmgoldngdaaaGreatDoor
open Go.RowKit
set_option maxRecDepth 100000
section
variable {P : Program} {ops : Array Oper} {Q : Exit → Act → World → Prop} {md : Region.Mode}

def serialB (md : Region.Mode) (ops : Array Oper) (m : Nat) : Bool := (List.range ops.size).all fun i => decide (i < m) || match ops[i]? with
  | some o => (List.range i).all fun j => o.after.any fun e => Region.binds md e && e.on == j
  | none => false
theorem serialB_all {m : Nat} (h : serialB md ops m = true) {i : Nat} {o : Oper} (ho : ops[i]? = some o) (hi : m ≤ i) {l : Array Bool} (hall : ∀ e ∈ o.after, Region.binds md e = true → l.getD e.on false = true) : ∀ j, j < i → l.getD j false = true := by
  intro j hj
  have hio : i < ops.size := (Array.getElem?_eq_some_iff.1 ho).1
  have h1 := List.all_eq_true.1 h i (List.mem_range.2 hio)
  rw [ho, decide_eq_false (by omega), Bool.false_or] at h1
  have h2 := List.all_eq_true.1 h1 j (List.mem_range.2 hj)
  obtain ⟨e, he, hb⟩ := Array.any_eq_true'.1 h2
  simp only [Bool.and_eq_true, beq_iff_eq] at hb
  rw [← hb.2]
  exact hall e he hb.1

theorem region_facts_tail (S : World → Prop) (G : Nat → Value → World → Prop) {a0 : Act} {n fuel : Nat} (m : Nat) (hser : serialB md ops m = true) (hord : orderlyB md ops = true) (hn : a0.tmps.size = n)
    (hdb : dstB ops n = true)
    (hG : ∀ i v w w', G i v w → Below w.heap.size w w' → G i v w')
    (hops : StepsOk P md ops Q S G a0 n (ops.toList.take m) 0)
    (hend : ∀ a w, S w → a.tmps.size = n → a.defers = a0.defers → (∀ k, slotFreeB ops k = true → a.tmps.getD k undef = a0.tmps.getD k undef) → (∀ (i : Nat) (o : Oper) (d : Nat), i < m → ops[i]? = some o → o.dst = some d → G i (a.tmps.getD d undef) w) →
      TailOk P ops Q (ops.toList.drop m) a w)
    {w : World} (hS : S w) (hf : ops.size ≤ fuel) : wpAny P md ops Q fuel (Array.replicate ops.size false) a0 w := by
  refine wpAny_inv (I := fun l a w => (Inv ops S G a0 n l a w ∧ ∀ i, m ≤ i → i < ops.size → l.getD i true = false) ∨ (l.size = ops.size ∧ ∃ k, (∀ i, k ≤ i → i < ops.size → l.getD i true = false) ∧ (∀ i, i < k → i < ops.size → l.getD i false = true) ∧ m ≤ k ∧ TailOk P ops Q (ops.toList.drop k) a w)) ?_ ?_ fuel _ a0 w ?_ ?_
  · intro l a w i hII hi
    obtain ⟨hun, o, ho, hall⟩ := mem_ready.1 hi
    have hio : i < ops.size := (Array.getElem?_eq_some_iff.1 ho).1
    refine wpOp_step ho fun K' hK => ?_
    rcases hII with ⟨hI, hm⟩ | ⟨hsz, k, hun', hli, hmk, hT⟩
    · by_cases him : i < m
      · have hop := steps_at (ops.toList.take m) 0 hops i o (by rw [List.getElem?_take, if_pos him]; simpa using ho)
        rw [Nat.zero_add] at hop
        refine hop a w hI.holds hI.tsize hI.base ?_ K' ?_
        · intro e he hb oe d hoe hd
          exact hI.facts e.on oe d hoe hd (hall e he hb)
        · intro v w' hS' hB hg
          apply hK
          refine .inl ⟨?_, ?_⟩
          · have hput : (a.put o.dst v).tmps.size = n ∧ (a.put o.dst v).defers = a.defers := by
              cases o.dst <;> simp [Act.put, hI.tsize]
            refine ⟨by simp [hI.size], hput.1, hput.2.trans hI.defers, hS', ?_, ?_⟩
            · intro k hk
              cases hd : o.dst with
              | none => exact hI.base k hk
              | some d =>
                have : d ≠ k := fun e => slotFree_spec hk i o ho (by rw [hd, e])
                rw [put_other this]
                exact hI.base k hk
            · intro j oj d hoj hd hl
              by_cases hji : j = i
              · subst hji
                obtain rfl : o = oj := Option.some.inj (ho.symm.trans hoj)
                rw [hd, put_self (by rw [hI.tsize]; exact dst_spec hdb j o d ho hd)]
                exact hg
              · have hl' : l.getD j false = true := by rw [← getD_set_ne (Ne.symm hji)]; exact hl
                have old := hG j _ w w' (hI.facts j oj d hoj hd hl') hB
                cases hdo : o.dst with
                | none => exact old
                | some d' =>
                  have : d' ≠ d := fun e => orderly_dst hord j i oj o d hoj ho hd (Ne.symm hji) (by rw [hdo, e])
                  rw [put_other this]
                  exact old
          · intro j hj hjs
            rw [getD_set_ne (by omega)]
            exact hm j hj hjs
      · have hmi : m ≤ i := by omega
        have hpre := serialB_all hser ho hmi hall
        have him' : i = m := by
          apply Classical.byContradiction
          intro hne
          exact getD_flip (hpre m (by omega)) (hm m (Nat.le_refl _) (by omega))
        subst him'
        have hT := hend a w hI.holds hI.tsize hI.defers hI.base (fun j oj d hj hoj hd => hI.facts j oj d hoj hd (hpre j hj))
        rw [drop_at ho] at hT
        refine hT K' fun a' w' hT' => hK a' w' (.inr ⟨by simp [hI.size], i + 1, ?_, ?_, by omega, hT'⟩)
        · intro j hj hjs
          rw [getD_set_ne (by omega)]
          exact hm j (by omega) hjs
        · intro j hj hjs
          by_cases hji : j = i
          · subst hji; exact getD_set_self (by rw [hI.size]; exact hio)
          · rw [getD_set_ne (Ne.symm hji)]; exact hpre j (by omega)
    · have hki : k ≤ i := by
        apply Classical.byContradiction
        intro hne
        exact getD_flip (hli i (by omega) hio) hun
      have hpre := serialB_all hser ho (by omega) hall
      have hik : i = k := by
        apply Classical.byContradiction
        intro hne
        exact getD_flip (hpre k (by omega)) (hun' k (Nat.le_refl _) (by omega))
      subst hik
      rw [drop_at ho] at hT
      refine hT K' fun a' w' hT' => hK a' w' (.inr ⟨by simp [hsz], i + 1, ?_, ?_, by omega, hT'⟩)
      · intro j hj hjs
        rw [getD_set_ne (by omega)]
        exact hun' j (by omega) hjs
      · intro j hj hjs
        by_cases hji : j = i
        · subst hji; exact getD_set_self (by rw [hsz]; exact hio)
        · rw [getD_set_ne (Ne.symm hji)]; exact hpre j (by omega)
  · intro l a w hII hr
    rcases hII with ⟨hI, hm⟩ | ⟨hsz, k, hun', hli, hmk, hT⟩
    · have hal := all_listed hord hI.size hr
      by_cases hms : m < ops.size
      · exact (getD_flip (hal m hms) (hm m (Nat.le_refl _) hms)).elim
      · have hT := hend a w hI.holds hI.tsize hI.defers hI.base (fun j oj d hj hoj hd => hI.facts j oj d hoj hd (hal j (Array.getElem?_eq_some_iff.1 hoj).1))
        rw [List.drop_eq_nil_of_le (by simpa using Nat.not_lt.1 hms)] at hT
        exact hT
    · have hal := all_listed hord hsz hr
      by_cases hks : k < ops.size
      · exact (getD_flip (hal k hks) (hun' k (Nat.le_refl _) hks)).elim
      · rw [List.drop_eq_nil_of_le (by simpa using Nat.not_lt.1 hks)] at hT
        exact hT
  · simp; omega
  · refine .inl ⟨⟨by simp, hn, rfl, hS, fun _ _ => rfl, ?_⟩, fun i _ hi => by simp [hi]⟩
    intro i o d ho hd hl
    rw [Array.getD_eq_getD_getElem?] at hl
    by_cases hi : i < ops.size
    · simp [hi] at hl
    · simp [hi] at hl
end
end Go.Proofs.YtkpdmgoldngdaaaGreatDoor

namespace Go.Proofs.YtkpdmgoldngdaaaGreatDoor
open Go.RowKit
set_option maxRecDepth 100000
section
variable {P : Program} {ops : Array Oper} {Q : Exit → Act → World → Prop} {md : Region.Mode}
theorem wp_build2 {o : Oper} {a : Act} {w : World} {K : Act → World → Prop} (t : TypeId) (i j : Operand) (x y : Value) (cells : Array Value) (ho : o.op = .build t #[(0, i), (1, j)]) (hi : a.eval i = x) (hj : a.eval j = y)
    (hrun : P.built t [(0, x), (1, y)] = some cells) (h : K (a.put o.dst (.agg cells)) w) : Oper.wp P o a w K Q := by
  have e : (#[(0, i), (1, j)].map fun (p : Nat × Operand) => (p.1, a.eval p.2)).toList = [(0, x), (1, y)] := by simp [hi, hj]
  refine wp_build t _ ho ?_ ?_
  · show (P.built t (#[(0, i), (1, j)].map fun (p : Nat × Operand) => (p.1, a.eval p.2)).toList).isSome = true
    rw [e, hrun]; rfl
  · show K (a.put o.dst (.agg ((P.built t (#[(0, i), (1, j)].map fun (p : Nat × Operand) => (p.1, a.eval p.2)).toList).getD #[]))) w
    rw [e, hrun]; exact h
end
end Go.Proofs.YtkpdmgoldngdaaaGreatDoor
