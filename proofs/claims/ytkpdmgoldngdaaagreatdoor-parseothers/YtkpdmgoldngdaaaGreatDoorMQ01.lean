/- the texts EFrames, EChecks, EBytes, ERdec, Arps, Achk, Adec, Ardec, in part, merged by program -/
import Derived.Test.YtkpdmgoldngdaaaGreatDoorRows
import Derived.WalkKit
import Derived.WalkSpells
import Derived.Deep.RegionHeld3
import Derived.Deep.QuietTactic
import Derived.BigQuiet
import Derived.WalkSmall
import Derived.Test.YtkpdmgoldngdaaaGreatDoorMA01
import Derived.Test.YtkpdmgoldngdaaaGreatDoorMA02
import Derived.Test.YtkpdmgoldngdaaaGreatDoorMD01
import Derived.Test.YtkpdmgoldngdaaaGreatDoorMG01
import Derived.Test.YtkpdmgoldngdaaaGreatDoorMN01
import Derived.Test.YtkpdmgoldngdaaaGreatDoorMO01
import Derived.Test.YtkpdmgoldngdaaaGreatDoorMO02
namespace Go.Proofs.YtkpdmgoldngdaaaGreatDoor.Eth
open Go.RowKit
set_option maxRecDepth 100000
theorem rmac_any (n : Int) (w : World) :
    Calls Tryz.prog 107 #[.int .i64 n] w fun e w' => e = .returned (.bool (macB n)) ∧ w' = w := by
  unfold macB
  by_cases h : 0 ≤ n
  · go_enter Tryz.func107, Tryz.ntmps107
    go_wp2
    go_ret
    exact ⟨by simp [h], rfl⟩
  · go_enter Tryz.func107, Tryz.ntmps107
    go_wp2
    go_ret
    exact ⟨by simp; omega, rfl⟩

theorem rgroup_any (n : Int) (w : World) (h0 : 0 ≤ n) (h1 : n ≤ 281474976710655) :
    Calls Tryz.prog 108 #[.int .i64 n] w fun e w' => e = .returned (.bool (grpB n)) ∧ w' = w := by
  unfold grpB
  go_enter Tryz.func108, Tryz.ntmps108
  go_wp2
  go_ret
  exact ⟨by simp; rfl, rfl⟩
end Go.Proofs.YtkpdmgoldngdaaaGreatDoor.Eth

namespace Go.Proofs.YtkpdmgoldngdaaaGreatDoor.Eth
open Go.RowKit
set_option maxRecDepth 100000
theorem rcheck_any (t f k : Int) (d : ByteArray) (w : World) (hd : d.size ≤ maxLen) :
    Calls Tryz.prog 63 #[.agg #[.int .i64 t, .int .i64 f, .int .i64 k, .string d]] w fun e w' => e = .returned (.int .i64 (codeE (mayB t f k d.size))) ∧ Below w.heap.size w w' := by
  unfold maxLen at hd
  have hbel := bel1 w
  rcases may_ways t f k d.size with ⟨h, m1⟩ | ⟨h, m1, m2⟩ | ⟨h, m1, m2, ⟨f0, f1⟩, g⟩ | ⟨h, m1, m2, ⟨f0, f1⟩, g, k1⟩ | ⟨h, m1, m2, ⟨f0, f1⟩, g, k1, k2⟩ | ⟨h, m1, m2, ⟨f0, f1⟩, g, k1, k2, z⟩ | ⟨h, m1, m2, ⟨f0, f1⟩, g, k1, k2, z⟩
  all_goals
    rw [h]; clear h
    go_enter Tryz.func63, Tryz.ntmps63
    go_wp2_with (first | (go_at_call 107; refine (rmac_any _ _).mono ?_; rintro e w' ⟨rfl, rfl⟩) | (go_at_call 108; refine (rgroup_any _ _ (by assumption) (by assumption)).mono ?_; rintro e w' ⟨rfl, rfl⟩))
    go_ret
    first | exact ⟨rfl, hbel _⟩ | exact ⟨by simp; omega, hbel _⟩

theorem rpgroup_any (n : Int) (w : World) :
    Calls Tryz.prog 109 #[.int .i64 n] w fun e w' => e = .returned (.tuple #[.bool (macB n && grpB n), .int .i64 (codeB (macB n))]) ∧ w' = w := by
  by_cases h : 0 ≤ n ∧ n ≤ 281474976710655
  · have m := macB_t h
    obtain ⟨h0, h1⟩ := h
    rw [m]
    go_enter Tryz.func109, Tryz.ntmps109
    go_wp2_with (first | (go_at_call 107; refine (rmac_any _ _).mono ?_; rintro e w' ⟨rfl, rfl⟩) | (go_at_call 108; refine (rgroup_any _ _ (by assumption) (by assumption)).mono ?_; rintro e w' ⟨rfl, rfl⟩))
    go_ret2
    exact ⟨rfl, rfl⟩
  · have m := macB_f h
    rw [m]
    go_enter Tryz.func109, Tryz.ntmps109
    go_wp2_with (first | (go_at_call 107; refine (rmac_any _ _).mono ?_; rintro e w' ⟨rfl, rfl⟩))
    go_ret2
    exact ⟨rfl, rfl⟩
end Go.Proofs.YtkpdmgoldngdaaaGreatDoor.Eth

namespace Go.Proofs.YtkpdmgoldngdaaaGreatDoor.Eth
open Go.RowKit
set_option maxRecDepth 100000
theorem codeE_t : codeE true = 0 := rfl
theorem codeE_f : codeE false = 30 := rfl

end Go.Proofs.YtkpdmgoldngdaaaGreatDoor.Eth

namespace Go.Proofs.YtkpdmgoldngdaaaGreatDoor.Eth
open Go.RowKit
set_option maxRecDepth 100000

def sT (s : ByteArray) : ByteArray := s.extract 0 6
def sF (s : ByteArray) : ByteArray := s.extract 6 12
def sK (s : ByteArray) : ByteArray := s.extract 12 14

theorem undrew {a b : World} (h : Below a.drew.heap.size a.drew b) : Below a.heap.size a b := bt ((Below.refl a.heap.size a).drew) h

set_option maxHeartbeats 2000000 in
theorem rdec_any (s : ByteArray) (w : World) (hs : s.size ≤ maxLen) :
    Calls Tryz.prog 29 #[.string s] w fun e w' => e = .returned (.tuple #[.agg #[.int .i64 (deT s), .int .i64 (deF s), .int .i64 (deK s), .string (deD s)], .int .i64 (codeE (decB s))]) ∧ Below w.heap.size w w' := by
  have hm := hs
  unfold maxLen at hs
  unfold deT deF deK deD
  by_cases h : 14 ≤ s.size
  · have hdm : (dD s).size ≤ maxLen := by rw [dD_size]; unfold maxLen; omega
    have q1 : ∀ W, (Instr.slice 9 (.string s) none (some (.int .i64 6)) none).run Tryz.prog W = .ok (.string (sT s)) W := fun W => by
      rw [run_slice_string_to_if W 9 s .i64 6 Tryz.underlying9, if_pos ⟨by omega, by omega⟩]; rfl
    have q2 : ∀ W, (Instr.slice 9 (.string s) (some (.int .i64 6)) (some (.int .i64 12)) none).run Tryz.prog W = .ok (.string (sF s)) W := fun W => by
      rw [run_slice_string_if W 9 s .i64 .i64 6 12 Tryz.underlying9, if_pos ⟨by omega, by omega⟩, if_pos ⟨by omega, by omega⟩]; rfl
    have q3 : ∀ W, (Instr.slice 9 (.string s) (some (.int .i64 12)) (some (.int .i64 14)) none).run Tryz.prog W = .ok (.string (sK s)) W := fun W => by
      rw [run_slice_string_if W 9 s .i64 .i64 12 14 Tryz.underlying9, if_pos ⟨by omega, by omega⟩, if_pos ⟨by omega, by omega⟩]; rfl
    have q4 : ∀ W, (Instr.slice 9 (.string s) (some (.int .i64 14)) none none).run Tryz.prog W = .ok (.string (dD s)) W := fun W => by
      rw [run_slice_string_from_if W 9 s .i64 14 Tryz.underlying9, if_pos ⟨by omega, by omega⟩]; rfl
    have zT : (sT s).size ≤ 6 := by unfold sT; rw [ByteArray.size_extract]; omega
    have zF : (sF s).size ≤ 6 := by unfold sF; rw [ByteArray.size_extract]; omega
    have zK : (sK s).size ≤ 6 := by unfold sK; rw [ByteArray.size_extract]; omega
    have hr0 := at_box w (.int .i64 0) (.int .i64 0) (.int .i64 0) (.string ⟨#[]⟩) 23
    have hl0 := bel1 w (.cells #[.int .i64 0, .int .i64 0, .int .i64 0, .string ⟨#[]⟩] 23)
    change Calls Tryz.prog 29 #[.string s] w fun e w' => e = .returned (.tuple #[.agg #[.int .i64 (if decB s = true then numS (sT s) else 0), .int .i64 (if decB s = true then numS (sF s) else 0), .int .i64 (if decB s = true then numS (sK s) else 0), .string (if decB s = true then dD s else ⟨#[]⟩)], .int .i64 (codeE (decB s))]) ∧ Below w.heap.size w w'
    have hB : decB s = mayB (numS (sT s)) (numS (sF s)) (numS (sK s)) (dD s).size := by unfold decB; rw [if_pos h]; rfl
    generalize sT s = T at *
    generalize sF s = F at *
    generalize sK s = K at *
    generalize dD s = D at *
    rcases Bool.eq_false_or_eq_true (mayB (numS T) (numS F) (numS K) D.size) with g | g
    · rw [hB, g, if_pos rfl, if_pos rfl, if_pos rfl, if_pos rfl]
      clear hB
      go_enter Tryz.func29, Tryz.ntmps29
      go_wp2
      generalize hW0 : w.alloc (.cells #[.int .i64 0, .int .i64 0, .int .i64 0, .string ⟨#[]⟩] 23) = W0 at *
      clear hW0
      go_region_held3 (fun _ => True) (trivial) ((go_at_call 62; refine (num_any _ _ (by assumption)).mono ?_; rintro e w' ⟨rfl, rfl⟩))
      all_goals
        clear q1 q2 q3 q4
        go_wp2_with fail
        refine (rcheck_any _ _ _ _ _ hdm).mono ?_
        rw [g]
        rintro e w4 ⟨rfl, hb4'⟩
        have hb4 := undrew hb4'
        clear hb4'
        have hk := codeE_t
        obtain ⟨⟨r0, r1, r2, r3⟩, ⟨f0, f1, f2, f3⟩, hlt⟩ := hr0.later (bt (bel1 W0 _) hb4)
        obtain ⟨⟨c0, c1, c2, c3⟩, -, -⟩ := (at_box W0 (.int .i64 (numS T)) (.int .i64 (numS F)) (.int .i64 (numS K)) (.string D) 23).later hb4
        have hbl := bt hl0 (bt (bel1 W0 _) hb4)
        clear hr0 hl0 hb4 g
        generalize W0.heap.size = b3 at *
        go_wp2
        exact bodyPost_ret (v := .tuple #[.agg #[.int .i64 (numS T), .int .i64 (numS F), .int .i64 (numS K), .string D], .int .i64 0]) (by simp [results, Tryz.results29, go_sem, r0, r1, r2, r3]) rfl ⟨rfl, (((hbl.setCell (Nat.le_refl _) _).setCell (Nat.le_refl _) _).setCell (Nat.le_refl _) _).setCell (Nat.le_refl _) _⟩
    · rw [hB, g, if_neg (by simp), if_neg (by simp), if_neg (by simp), if_neg (by simp)]
      clear hB
      go_enter Tryz.func29, Tryz.ntmps29
      go_wp2
      generalize hW0 : w.alloc (.cells #[.int .i64 0, .int .i64 0, .int .i64 0, .string ⟨#[]⟩] 23) = W0 at *
      clear hW0
      go_region_held3 (fun _ => True) (trivial) ((go_at_call 62; refine (num_any _ _ (by assumption)).mono ?_; rintro e w' ⟨rfl, rfl⟩))
      all_goals
        clear q1 q2 q3 q4
        go_wp2_with fail
        refine (rcheck_any _ _ _ _ _ hdm).mono ?_
        rw [g]
        rintro e w4 ⟨rfl, hb4'⟩
        have hb4 := undrew hb4'
        clear hb4'
        have hk := codeE_f
        obtain ⟨⟨r0, r1, r2, r3⟩, ⟨f0, f1, f2, f3⟩, hlt⟩ := hr0.later (bt (bel1 W0 _) hb4)
        obtain ⟨⟨c0, c1, c2, c3⟩, -, -⟩ := (at_box W0 (.int .i64 (numS T)) (.int .i64 (numS F)) (.int .i64 (numS K)) (.string D) 23).later hb4
        have hbl := bt hl0 (bt (bel1 W0 _) hb4)
        clear hr0 hl0 hb4 g
        generalize W0.heap.size = b3 at *
        go_wp2
        exact bodyPost_ret (v := .tuple #[.agg #[.int .i64 0, .int .i64 0, .int .i64 0, .string ⟨#[]⟩], .int .i64 30]) (by simp [results, Tryz.results29, go_sem, r0, r1, r2, r3]) rfl ⟨rfl, (((hbl.setCell (Nat.le_refl _) _).setCell (Nat.le_refl _) _).setCell (Nat.le_refl _) _).setCell (Nat.le_refl _) _⟩
  · have hB : decB s = false := by unfold decB; rw [if_neg h]
    rw [hB, if_neg (by simp), if_neg (by simp), if_neg (by simp), if_neg (by simp)]
    clear hB
    have hl0 := bel1 w (.cells #[.int .i64 0, .int .i64 0, .int .i64 0, .string ⟨#[]⟩] 23)
    go_enter Tryz.func29, Tryz.ntmps29
    go_wp2
    exact bodyPost_ret (v := .tuple #[.agg #[.int .i64 0, .int .i64 0, .int .i64 0, .string ⟨#[]⟩], .int .i64 30]) (by simp [results, Tryz.results29, go_sem]) rfl ⟨rfl, hl0⟩
end Go.Proofs.YtkpdmgoldngdaaaGreatDoor.Eth

namespace Go.Proofs.YtkpdmgoldngdaaaGreatDoor.Eth.Arp
open Go.RowKit
set_option maxRecDepth 100000
def codeA (b : Bool) : Int := if b = true then 0 else 40
end Go.Proofs.YtkpdmgoldngdaaaGreatDoor.Eth.Arp

namespace Go.Proofs.YtkpdmgoldngdaaaGreatDoor.Eth.Arp
open Go.RowKit
set_option maxRecDepth 100000
theorem chk_ways (o fm fi tm ti : Int) :
    (mayA o fm fi tm ti = false ∧ (o != 1) = true ∧ (o != 2) = true) ∨
    ((o != 1) = false ∨ (o != 1) = true ∧ (o != 2) = false) ∧ (
    (mayA o fm fi tm ti = false ∧ macB fm = false) ∨ (mayA o fm fi tm ti = false ∧ macB fm = true ∧ macB tm = false) ∨ (mayA o fm fi tm ti = false ∧ macB fm = true ∧ macB tm = true ∧ grpB fm = true) ∨
    (mayA o fm fi tm ti = false ∧ macB fm = true ∧ macB tm = true ∧ grpB fm = false ∧ outB fi 0 4294967295 = true) ∨ (mayA o fm fi tm ti = false ∧ macB fm = true ∧ macB tm = true ∧ grpB fm = false ∧ outB fi 0 4294967295 = false ∧ outB ti 0 4294967295 = true) ∨
    (mayA o fm fi tm ti = true ∧ macB fm = true ∧ macB tm = true ∧ grpB fm = false ∧ outB fi 0 4294967295 = false ∧ outB ti 0 4294967295 = false)) := by
  by_cases ho : o = 1 ∨ o = 2
  · refine .inr ⟨op_ways ho, ?_⟩
    by_cases h1 : 0 ≤ fm ∧ fm ≤ 281474976710655
    · by_cases h2 : 0 ≤ tm ∧ tm ≤ 281474976710655
      · by_cases h3 : fm / 1099511627776 % 2 = 0
        · by_cases h4 : 0 ≤ fi ∧ fi ≤ 4294967295
          · by_cases h5 : 0 ≤ ti ∧ ti ≤ 4294967295
            · exact .inr (.inr (.inr (.inr (.inr ⟨mayA_t ⟨ho, h1, h3, h4, h2, h5⟩, macB_t h1, macB_t h2, grpB_f h3, outB_f h4, outB_f h5⟩))))
            · exact .inr (.inr (.inr (.inr (.inl ⟨mayA_f fun h => h5 h.2.2.2.2.2, macB_t h1, macB_t h2, grpB_f h3, outB_f h4, outB_t (by omega)⟩))))
          · exact .inr (.inr (.inr (.inl ⟨mayA_f fun h => h4 h.2.2.2.1, macB_t h1, macB_t h2, grpB_f h3, outB_t (by omega)⟩)))
        · exact .inr (.inr (.inl ⟨mayA_f fun h => h3 h.2.2.1, macB_t h1, macB_t h2, grpB_t (by omega)⟩))
      · exact .inr (.inl ⟨mayA_f fun h => h2 h.2.2.2.2.1, macB_t h1, macB_f h2⟩)
    · exact .inl ⟨mayA_f fun h => h1 h.2.1, macB_f h1⟩
  · exact .inl ⟨mayA_f fun h => ho h.1, neb fun h => ho (.inl h), neb fun h => ho (.inr h)⟩

theorem ric_t {n : Int} (h : outB n 0 4294967295 = true) (w : World) : Calls Tryz.prog 75 #[.int .i64 n] w fun e w' => e = .returned (.int .i64 1) ∧ w' = w := by
  have := Go.Proofs.YtkpdmgoldngdaaaGreatDoor.rcheck_any n w; rw [h] at this; exact this
theorem ric_f {n : Int} (h : outB n 0 4294967295 = false) (w : World) : Calls Tryz.prog 75 #[.int .i64 n] w fun e w' => e = .returned (.int .i64 0) ∧ w' = w := by
  have := Go.Proofs.YtkpdmgoldngdaaaGreatDoor.rcheck_any n w; rw [h] at this; exact this

set_option maxHeartbeats 1000000 in
theorem rchk_any (o fm fi tm ti : Int) (w : World) :
    Calls Tryz.prog 65 #[.agg #[.int .i64 o, .int .i64 fm, .int .i64 fi, .int .i64 tm, .int .i64 ti]] w fun e w' => e = .returned (.int .i64 (codeA (mayA o fm fi tm ti))) ∧ Below w.heap.size w w' := by
  rcases chk_ways o fm fi tm ti with ⟨h, o1, o2⟩ | ⟨ho, hr⟩
  · rw [h]; clear h
    go_enter Tryz.func65, Tryz.ntmps65
    go_wp2_with (first | (go_at_call 109; refine (rpgroup_any _ _).mono ?_; rintro e w' ⟨rfl, rfl⟩))
    go_ret
    exact ⟨rfl, bel1 _ _⟩
  · rcases ho with o1 | ⟨o1, o2⟩
    all_goals
      rcases hr with ⟨h, m1⟩ | ⟨h, m1, m2⟩ | ⟨h, m1, m2, g⟩ | ⟨h, m1, m2, g, i1⟩ | ⟨h, m1, m2, g, i1, i2⟩ | ⟨h, m1, m2, g, i1, i2⟩
      all_goals
        rw [h]; clear h
        go_enter Tryz.func65, Tryz.ntmps65
        go_wp2_with (first | (go_at_call 109; refine (rpgroup_any _ _).mono ?_; rintro e w' ⟨rfl, rfl⟩) | (go_at_call 107; refine (rmac_any _ _).mono ?_; rintro e w' ⟨rfl, rfl⟩) | (go_at_call 75; refine (ric_t (by assumption) _).mono ?_; rintro e w' ⟨rfl, rfl⟩) | (go_at_call 75; refine (ric_f (by assumption) _).mono ?_; rintro e w' ⟨rfl, rfl⟩))
        go_ret
        exact ⟨rfl, bel1 _ _⟩

theorem rchk_t {o fm fi tm ti : Int} (h : mayA o fm fi tm ti = true) (w : World) : Calls Tryz.prog 65 #[.agg #[.int .i64 o, .int .i64 fm, .int .i64 fi, .int .i64 tm, .int .i64 ti]] w fun e w' => e = .returned (.int .i64 0) ∧ Below w.heap.size w w' := by
  have := rchk_any o fm fi tm ti w; rw [h] at this; exact this
theorem rchk_f {o fm fi tm ti : Int} (h : mayA o fm fi tm ti = false) (w : World) : Calls Tryz.prog 65 #[.agg #[.int .i64 o, .int .i64 fm, .int .i64 fi, .int .i64 tm, .int .i64 ti]] w fun e w' => e = .returned (.int .i64 40) ∧ Below w.heap.size w w' := by
  have := rchk_any o fm fi tm ti w; rw [h] at this; exact this
end Go.Proofs.YtkpdmgoldngdaaaGreatDoor.Eth.Arp

namespace Go.Proofs.YtkpdmgoldngdaaaGreatDoor.Eth.Arp
open Go.RowKit
set_option maxRecDepth 100000
set_option linter.unusedVariables false
set_option maxHeartbeats 1000000 in
theorem dec_n1 {s : ByteArray} (h : s.size < 28 ∨ 46 < s.size ∨ (28 ≤ s.size ∧ s.size ≤ 46) ∧ preB s = false) (w : World) (hs : s.size ≤ maxLen) :
    Calls Tryz.prog 60 #[.string s] w fun e w' => e = .returned (.tuple #[.agg #[.int .i64 0, .int .i64 0, .int .i64 0, .int .i64 0, .int .i64 0], .int .i64 40]) ∧ Below w.heap.size w w' := by
  have hm := hs
  unfold maxLen at hs
  have hl := bel1 w (.cells #[.int .i64 0, .int .i64 0, .int .i64 0, .int .i64 0, .int .i64 0] 25)
  rcases h with h | h | ⟨⟨h, h2⟩, q⟩
  all_goals
    go_enter Tryz.func60, Tryz.ntmps60
    go_wp2_with (first | (go_at_call 104; refine (pre_any _ _ hm h).mono ?_; rw [q]; rintro e w' ⟨rfl, rfl⟩))
    exact bodyPost_ret (v := .tuple #[.agg #[.int .i64 0, .int .i64 0, .int .i64 0, .int .i64 0, .int .i64 0], .int .i64 40]) (by simp [results, Tryz.results60, go_sem]) rfl ⟨rfl, hl⟩

theorem dec_n {s : ByteArray} (h : decA s = false) (w : World) (hs : s.size ≤ maxLen) :
    Calls Tryz.prog 60 #[.string s] w fun e w' => e = .returned (.tuple #[.agg #[.int .i64 0, .int .i64 0, .int .i64 0, .int .i64 0, .int .i64 0], .int .i64 40]) ∧ Below w.heap.size w w' := by
  rcases decA_ways s with ⟨-, a⟩ | ⟨-, a⟩ | ⟨a, ⟨-, b⟩ | ⟨b, ⟨-, c⟩ | ⟨c, -⟩⟩⟩
  · exact dec_n1 (.inl a) w hs
  · exact dec_n1 (.inr (.inl a)) w hs
  · exact dec_n1 (.inr (.inr ⟨a, b⟩)) w hs
  · exact dec_n2 a.1 a.2 b c w
  · rw [h] at c; cases c
end Go.Proofs.YtkpdmgoldngdaaaGreatDoor.Eth.Arp

namespace Go.Proofs.YtkpdmgoldngdaaaGreatDoor.Eth.Arp
open Go.RowKit
set_option maxRecDepth 100000
set_option linter.unusedVariables false

theorem rhead_same (w : World) : Calls Tryz.prog 64 #[] w fun e w' => e = .returned (.string hdS) ∧ w' = w := by
  go_enter Tryz.func64, Tryz.ntmps64
  go_wp2
  go_ret
  exact ⟨rfl, rfl⟩

theorem At.drewN {W : World} {b : Nat} {vs : Array Value} (h : At W b vs) (n : Nat) : At (W.drewN n) b vs := h.later (below_drewN (Below.refl _ _) n)
theorem undrew {a b : World} (h : Below a.drew.heap.size a.drew b) : Below a.heap.size a b := bt ((Below.refl a.heap.size a).drew) h

set_option maxHeartbeats 1000000 in
theorem rdec_n1 {s : ByteArray} (h : s.size < 28 ∨ 46 < s.size ∨ (28 ≤ s.size ∧ s.size ≤ 46) ∧ preB s = false) (w : World) (hs : s.size ≤ maxLen) :
    Calls Tryz.prog 30 #[.string s] w fun e w' => e = .returned (.tuple #[.agg #[.int .i64 0, .int .i64 0, .int .i64 0, .int .i64 0, .int .i64 0], .int .i64 40]) ∧ Below w.heap.size w w' := by
  have hm := hs
  unfold maxLen at hs
  have hl := bel1 w (.cells #[.int .i64 0, .int .i64 0, .int .i64 0, .int .i64 0, .int .i64 0] 25)
  have hR := At.box w #[.int .i64 0, .int .i64 0, .int .i64 0, .int .i64 0, .int .i64 0] 25
  rcases h with h | h | ⟨⟨h, h2⟩, q⟩
  · have t1 : decide ((s.size : Int) < 28) = true := decide_eq_true (by omega)
    go_enter Tryz.func30, Tryz.ntmps30
    go_wp2
    go_quiet (fail)
    obtain ⟨⟨r0, r1, r2, r3, r4⟩, ⟨f0, f1, f2, f3, f4⟩, hlt⟩ := (hR.drewN nq).five
    have hl' := below_drewN hl nq
    generalize (w.alloc (.cells #[.int .i64 0, .int .i64 0, .int .i64 0, .int .i64 0, .int .i64 0] 25)).drewN nq = W0 at *
    go_wp2
    exact bodyPost_ret (v := .tuple #[.agg #[.int .i64 0, .int .i64 0, .int .i64 0, .int .i64 0, .int .i64 0], .int .i64 40]) (by simp [results, Tryz.results30, go_sem, r0, r1, r2, r3, r4]) rfl ⟨rfl, below5 hl' (Nat.le_refl _) _ _ _ _ _⟩
  · have t1 : decide ((s.size : Int) < 28) = false := decide_eq_false (by omega)
    have t2 : decide ((46 : Int) < s.size) = true := decide_eq_true (by omega)
    go_enter Tryz.func30, Tryz.ntmps30
    go_wp2
    go_quiet (fail)
    obtain ⟨⟨r0, r1, r2, r3, r4⟩, ⟨f0, f1, f2, f3, f4⟩, hlt⟩ := (hR.drewN nq).five
    have hl' := below_drewN hl nq
    generalize (w.alloc (.cells #[.int .i64 0, .int .i64 0, .int .i64 0, .int .i64 0, .int .i64 0] 25)).drewN nq = W0 at *
    go_wp2
    exact bodyPost_ret (v := .tuple #[.agg #[.int .i64 0, .int .i64 0, .int .i64 0, .int .i64 0, .int .i64 0], .int .i64 40]) (by simp [results, Tryz.results30, go_sem, r0, r1, r2, r3, r4]) rfl ⟨rfl, below5 hl' (Nat.le_refl _) _ _ _ _ _⟩
  · have t1 : decide ((s.size : Int) < 28) = false := decide_eq_false (by omega)
    have t2 : decide ((46 : Int) < s.size) = false := decide_eq_false (by omega)
    have q' : ((s.extract 0 6).toList == hdS.toList) = false := q
    have i6 : (6 : Int) ≤ (s.size : Int) := by omega
    go_enter Tryz.func30, Tryz.ntmps30
    go_wp2
    go_quiet ((go_at_call 64; refine Calls.quiet_of_same (rhead_same _)))
    obtain ⟨⟨r0, r1, r2, r3, r4⟩, ⟨f0, f1, f2, f3, f4⟩, hlt⟩ := (hR.drewN nq).five
    have hl' := below_drewN hl nq
    generalize (w.alloc (.cells #[.int .i64 0, .int .i64 0, .int .i64 0, .int .i64 0, .int .i64 0] 25)).drewN nq = W0 at *
    go_wp2
    exact bodyPost_ret (v := .tuple #[.agg #[.int .i64 0, .int .i64 0, .int .i64 0, .int .i64 0, .int .i64 0], .int .i64 40]) (by simp [results, Tryz.results30, go_sem, r0, r1, r2, r3, r4]) rfl ⟨rfl, below5 hl' (Nat.le_refl _) _ _ _ _ _⟩

def sO (s : ByteArray) : ByteArray := s.extract 6 8
def sFm (s : ByteArray) : ByteArray := s.extract 8 14
def sFi (s : ByteArray) : ByteArray := s.extract 14 18
def sTm (s : ByteArray) : ByteArray := s.extract 18 24
def sTi (s : ByteArray) : ByteArray := s.extract 24 28
theorem run_sl (s : ByteArray) (a b : Nat) (x : ByteArray) (hx : s.extract a b = x) (h : b ≤ s.size) (hab : a ≤ b) (hs : s.size ≤ 46) : ∀ W, (Instr.slice 9 (.string s) (some (.int .i64 (a : Int))) (some (.int .i64 (b : Int))) none).run Tryz.prog W = .ok (.string x) W := fun W => by
  rw [run_slice_string_if W 9 s .i64 .i64 a b Tryz.underlying9, if_pos ⟨by omega, by omega⟩, if_pos ⟨by omega, by omega⟩, ← hx]; rfl

set_option maxHeartbeats 2000000 in
theorem rdec_n2 {s : ByteArray} (h : 28 ≤ s.size) (h2 : s.size ≤ 46) (q : preB s = true) (g : mayS s = false) (w : World) :
    Calls Tryz.prog 30 #[.string s] w fun e w' => e = .returned (.tuple #[.agg #[.int .i64 0, .int .i64 0, .int .i64 0, .int .i64 0, .int .i64 0], .int .i64 40]) ∧ Below w.heap.size w w' := by
  have hl := bel1 w (.cells #[.int .i64 0, .int .i64 0, .int .i64 0, .int .i64 0, .int .i64 0] 25)
  have hR := At.box w #[.int .i64 0, .int .i64 0, .int .i64 0, .int .i64 0, .int .i64 0] 25
  have t1 : decide ((s.size : Int) < 28) = false := decide_eq_false (by omega)
  have t2 : decide ((46 : Int) < s.size) = false := decide_eq_false (by omega)
  have q' : ((s.extract 0 6).toList == hdS.toList) = true := q
  have i6 : (6 : Int) ≤ (s.size : Int) := by omega
  have q1 : ∀ W, (Instr.slice 9 (.string s) (some (.int .i64 6)) (some (.int .i64 8)) none).run Tryz.prog W = .ok (.string (sO s)) W := run_sl s 6 8 (sO s) rfl (by omega) (by omega) h2
  have q2 : ∀ W, (Instr.slice 9 (.string s) (some (.int .i64 8)) (some (.int .i64 14)) none).run Tryz.prog W = .ok (.string (sFm s)) W := run_sl s 8 14 (sFm s) rfl (by omega) (by omega) h2
  have q3 : ∀ W, (Instr.slice 9 (.string s) (some (.int .i64 14)) (some (.int .i64 18)) none).run Tryz.prog W = .ok (.string (sFi s)) W := run_sl s 14 18 (sFi s) rfl (by omega) (by omega) h2
  have q4 : ∀ W, (Instr.slice 9 (.string s) (some (.int .i64 18)) (some (.int .i64 24)) none).run Tryz.prog W = .ok (.string (sTm s)) W := run_sl s 18 24 (sTm s) rfl (by omega) (by omega) h2
  have q5 : ∀ W, (Instr.slice 9 (.string s) (some (.int .i64 24)) (some (.int .i64 28)) none).run Tryz.prog W = .ok (.string (sTi s)) W := run_sl s 24 28 (sTi s) rfl (by omega) (by omega) h2
  have zO : (sO s).size ≤ 6 := by unfold sO; rw [ByteArray.size_extract]; omega
  have zFm : (sFm s).size ≤ 6 := by unfold sFm; rw [ByteArray.size_extract]; omega
  have zFi : (sFi s).size ≤ 6 := by unfold sFi; rw [ByteArray.size_extract]; omega
  have zTm : (sTm s).size ≤ 6 := by unfold sTm; rw [ByteArray.size_extract]; omega
  have zTi : (sTi s).size ≤ 6 := by unfold sTi; rw [ByteArray.size_extract]; omega
  change mayA (numS (sO s)) (numS (sFm s)) (numS (sFi s)) (numS (sTm s)) (numS (sTi s)) = false at g
  skip
  generalize sO s = vO at *
  generalize sFm s = vFm at *
  generalize sFi s = vFi at *
  generalize sTm s = vTm at *
  generalize sTi s = vTi at *
  go_enter Tryz.func30, Tryz.ntmps30
  go_wp2
  go_quiet ((go_at_call 64; refine Calls.quiet_of_same (rhead_same _)))
  have hR := hR.drewN nq
  have hl := below_drewN hl nq
  generalize (w.alloc (.cells #[.int .i64 0, .int .i64 0, .int .i64 0, .int .i64 0, .int .i64 0] 25)).drewN nq = W0 at *
  go_wp2
  go_region_held3 (fun _ => True) (trivial) ((go_at_call 62; refine (num_any _ _ (by assumption)).mono ?_; rintro e w' ⟨rfl, rfl⟩))
  all_goals
    clear q1 q2 q3 q4 q5 t1 t2 q'
    go_wp2_with fail
    refine (rchk_f g _).mono ?_
    rintro e w4 ⟨rfl, hb4'⟩
    have hb4 := undrew hb4'
    clear hb4'
    obtain ⟨⟨r0, r1, r2, r3, r4⟩, ⟨f0, f1, f2, f3, f4⟩, hlt⟩ := (hR.later (bt (bel1 W0 _) hb4)).five
    obtain ⟨⟨c0, c1, c2, c3, c4⟩, -, -⟩ := ((At.box W0 #[.int .i64 (numS vO), .int .i64 (numS vFm), .int .i64 (numS vFi), .int .i64 (numS vTm), .int .i64 (numS vTi)] 25).later hb4).five
    have hbl := bt hl (bt (bel1 W0 _) hb4)
    clear hR hl hb4 g
    generalize W0.heap.size = b3 at *
    go_wp2
    exact bodyPost_ret (v := .tuple #[.agg #[.int .i64 0, .int .i64 0, .int .i64 0, .int .i64 0, .int .i64 0], .int .i64 40]) (by simp [results, Tryz.results30, go_sem, r0, r1, r2, r3, r4]) rfl ⟨rfl, below5 hbl (Nat.le_refl _) _ _ _ _ _⟩

set_option maxHeartbeats 2000000 in
theorem rdec_y0 {s : ByteArray} (h : 28 ≤ s.size) (h2 : s.size ≤ 46) (q : preB s = true) (g : mayS s = true) (w : World) :
    Calls Tryz.prog 30 #[.string s] w fun e w' => e = .returned (.tuple #[.agg #[.int .i64 (aO s), .int .i64 (aFm s), .int .i64 (aFi s), .int .i64 (aTm s), .int .i64 (aTi s)], .int .i64 0]) ∧ Below w.heap.size w w' := by
  have hl := bel1 w (.cells #[.int .i64 0, .int .i64 0, .int .i64 0, .int .i64 0, .int .i64 0] 25)
  have hR := At.box w #[.int .i64 0, .int .i64 0, .int .i64 0, .int .i64 0, .int .i64 0] 25
  have t1 : decide ((s.size : Int) < 28) = false := decide_eq_false (by omega)
  have t2 : decide ((46 : Int) < s.size) = false := decide_eq_false (by omega)
  have q' : ((s.extract 0 6).toList == hdS.toList) = true := q
  have i6 : (6 : Int) ≤ (s.size : Int) := by omega
  have q1 : ∀ W, (Instr.slice 9 (.string s) (some (.int .i64 6)) (some (.int .i64 8)) none).run Tryz.prog W = .ok (.string (sO s)) W := run_sl s 6 8 (sO s) rfl (by omega) (by omega) h2
  have q2 : ∀ W, (Instr.slice 9 (.string s) (some (.int .i64 8)) (some (.int .i64 14)) none).run Tryz.prog W = .ok (.string (sFm s)) W := run_sl s 8 14 (sFm s) rfl (by omega) (by omega) h2
  have q3 : ∀ W, (Instr.slice 9 (.string s) (some (.int .i64 14)) (some (.int .i64 18)) none).run Tryz.prog W = .ok (.string (sFi s)) W := run_sl s 14 18 (sFi s) rfl (by omega) (by omega) h2
  have q4 : ∀ W, (Instr.slice 9 (.string s) (some (.int .i64 18)) (some (.int .i64 24)) none).run Tryz.prog W = .ok (.string (sTm s)) W := run_sl s 18 24 (sTm s) rfl (by omega) (by omega) h2
  have q5 : ∀ W, (Instr.slice 9 (.string s) (some (.int .i64 24)) (some (.int .i64 28)) none).run Tryz.prog W = .ok (.string (sTi s)) W := run_sl s 24 28 (sTi s) rfl (by omega) (by omega) h2
  have zO : (sO s).size ≤ 6 := by unfold sO; rw [ByteArray.size_extract]; omega
  have zFm : (sFm s).size ≤ 6 := by unfold sFm; rw [ByteArray.size_extract]; omega
  have zFi : (sFi s).size ≤ 6 := by unfold sFi; rw [ByteArray.size_extract]; omega
  have zTm : (sTm s).size ≤ 6 := by unfold sTm; rw [ByteArray.size_extract]; omega
  have zTi : (sTi s).size ≤ 6 := by unfold sTi; rw [ByteArray.size_extract]; omega
  change mayA (numS (sO s)) (numS (sFm s)) (numS (sFi s)) (numS (sTm s)) (numS (sTi s)) = true at g
  change Calls Tryz.prog 30 #[.string s] w fun e w' => e = .returned (.tuple #[.agg #[.int .i64 (numS (sO s)), .int .i64 (numS (sFm s)), .int .i64 (numS (sFi s)), .int .i64 (numS (sTm s)), .int .i64 (numS (sTi s))], .int .i64 0]) ∧ Below w.heap.size w w'
  generalize sO s = vO at *
  generalize sFm s = vFm at *
  generalize sFi s = vFi at *
  generalize sTm s = vTm at *
  generalize sTi s = vTi at *
  go_enter Tryz.func30, Tryz.ntmps30
  go_wp2
  go_quiet ((go_at_call 64; refine Calls.quiet_of_same (rhead_same _)))
  have hR := hR.drewN nq
  have hl := below_drewN hl nq
  generalize (w.alloc (.cells #[.int .i64 0, .int .i64 0, .int .i64 0, .int .i64 0, .int .i64 0] 25)).drewN nq = W0 at *
  go_wp2
  go_region_held3 (fun _ => True) (trivial) ((go_at_call 62; refine (num_any _ _ (by assumption)).mono ?_; rintro e w' ⟨rfl, rfl⟩))
  all_goals
    clear q1 q2 q3 q4 q5 t1 t2 q'
    go_wp2_with fail
    refine (rchk_t g _).mono ?_
    rintro e w4 ⟨rfl, hb4'⟩
    have hb4 := undrew hb4'
    clear hb4'
    obtain ⟨⟨r0, r1, r2, r3, r4⟩, ⟨f0, f1, f2, f3, f4⟩, hlt⟩ := (hR.later (bt (bel1 W0 _) hb4)).five
    obtain ⟨⟨c0, c1, c2, c3, c4⟩, -, -⟩ := ((At.box W0 #[.int .i64 (numS vO), .int .i64 (numS vFm), .int .i64 (numS vFi), .int .i64 (numS vTm), .int .i64 (numS vTi)] 25).later hb4).five
    have hbl := bt hl (bt (bel1 W0 _) hb4)
    clear hR hl hb4 g
    generalize W0.heap.size = b3 at *
    go_wp2
    exact bodyPost_ret (v := .tuple #[.agg #[.int .i64 (numS vO), .int .i64 (numS vFm), .int .i64 (numS vFi), .int .i64 (numS vTm), .int .i64 (numS vTi)], .int .i64 0]) (by simp [results, Tryz.results30, go_sem, r0, r1, r2, r3, r4]) rfl ⟨rfl, below5 hbl (Nat.le_refl _) _ _ _ _ _⟩

theorem rdec_n {s : ByteArray} (h : decA s = false) (w : World) (hs : s.size ≤ maxLen) :
    Calls Tryz.prog 30 #[.string s] w fun e w' => e = .returned (.tuple #[.agg #[.int .i64 0, .int .i64 0, .int .i64 0, .int .i64 0, .int .i64 0], .int .i64 40]) ∧ Below w.heap.size w w' := by
  rcases decA_ways s with ⟨-, a⟩ | ⟨-, a⟩ | ⟨a, ⟨-, b⟩ | ⟨b, ⟨-, c⟩ | ⟨c, -⟩⟩⟩
  · exact rdec_n1 (.inl a) w hs
  · exact rdec_n1 (.inr (.inl a)) w hs
  · exact rdec_n1 (.inr (.inr ⟨a, b⟩)) w hs
  · exact rdec_n2 a.1 a.2 b c w
  · rw [h] at c; cases c
theorem rdec_y {s : ByteArray} (h : decA s = true) (w : World) :
    Calls Tryz.prog 30 #[.string s] w fun e w' => e = .returned (.tuple #[.agg #[.int .i64 (aO s), .int .i64 (aFm s), .int .i64 (aFi s), .int .i64 (aTm s), .int .i64 (aTi s)], .int .i64 0]) ∧ Below w.heap.size w w' := by
  obtain ⟨a, b, c, d⟩ := decA_parts h
  exact rdec_y0 a b c d w
end Go.Proofs.YtkpdmgoldngdaaaGreatDoor.Eth.Arp
