/- the texts PPks, PChk, Icd, Icq, in part, merged by program -/
import Derived.Test.YtkpdmgoldngdaaaGreatDoorRows
import Derived.Deep.RegionHeld3
import Derived.Deep.QuietTactic
import Derived.BigQuiet
import Derived.WalkSmall
import Derived.WalkKit
import Derived.WalkSpells
import Derived.Deep.RegionWith
import Derived.LoopN
import Derived.RegionTactic
import Derived.Below
import Derived.Test.YtkpdmgoldngdaaaGreatDoorMA01
import Derived.Test.YtkpdmgoldngdaaaGreatDoorMA03
import Derived.Test.YtkpdmgoldngdaaaGreatDoorMB01
import Derived.Test.YtkpdmgoldngdaaaGreatDoorMD01
import Derived.Test.YtkpdmgoldngdaaaGreatDoorME01
import Derived.Test.YtkpdmgoldngdaaaGreatDoorMG01
namespace Go.Proofs.YtkpdmgoldngdaaaGreatDoor.Ip
open Go.RowKit
set_option maxRecDepth 100000
def codeP (b : Bool) : Int := if b = true then 0 else 50

theorem dataB_f {fr : Int} {mo : Bool} {zo zd : Nat} (h : ¬ ((mo = true → zd ≠ 0 ∧ zd % 8 = 0) ∧ 20 + zo + zd ≤ 65535 ∧ fr * 8 + zd ≤ 65535)) : dataB fr mo zo zd = false := decide_eq_false h
theorem dataB_t {fr : Int} {mo : Bool} {zo zd : Nat} (h : (mo = true → zd ≠ 0 ∧ zd % 8 = 0) ∧ 20 + zo + zd ≤ 65535 ∧ fr * 8 + zd ≤ 65535) : dataB fr mo zo zd = true := decide_eq_true h
end Go.Proofs.YtkpdmgoldngdaaaGreatDoor.Ip

namespace Go.Proofs.YtkpdmgoldngdaaaGreatDoor.Ip
open Go.RowKit
set_option maxRecDepth 100000
theorem ric_t {n : Int} (h : fitB n 4294967295 = true) (w : World) : Calls Tryz.prog 75 #[.int .i64 n] w fun e w' => e = .returned (.int .i64 0) ∧ w' = w := by
  have := rcheck_any n w; rw [outB_f (of_decide_eq_true h)] at this; exact this
theorem ric_f {n : Int} (h : fitB n 4294967295 = false) (w : World) : Calls Tryz.prog 75 #[.int .i64 n] w fun e w' => e = .returned (.int .i64 1) ∧ w' = w := by
  have := rcheck_any n w; rw [outB_t (by have := of_decide_eq_false h; omega)] at this; exact this
theorem fit_no {n m : Int} (h : fitB n m = false) : n < 0 ∨ 0 ≤ n ∧ m < n := by have := of_decide_eq_false h; omega
theorem fit_yes {n m : Int} (h : fitB n m = true) : 0 ≤ n ∧ n ≤ m := of_decide_eq_true h

set_option maxRecDepth 100000 in
set_option maxHeartbeats 4000000 in
theorem rchk_bad (f t tl pr id fr : Int) (mo dn : Bool) (op da : ByteArray) (w : World) (h : fitB f 4294967295 = false ∨ fitB f 4294967295 = true ∧ fitB t 4294967295 = false) :
    Calls Tryz.prog 38 #[.agg #[.int .i64 f, .int .i64 t, .int .i64 tl, .int .i64 pr, .int .i64 id, .int .i64 fr, .bool mo, .bool dn, .string op, .string da]] w fun e w' => e = .returned (.int .i64 50) ∧ Below w.heap.size w w' := by
  rcases h with h1 | ⟨h1, h2⟩
  all_goals
    go_enter Tryz.func38, Tryz.ntmps38
    go_wp2_with (first | (go_at_call 75; refine (ric_f (by assumption) _).mono ?_; rintro e w1 ⟨rfl, rfl⟩) | (go_at_call 75; refine (ric_t (by assumption) _).mono ?_; rintro e w1 ⟨rfl, rfl⟩))
    all_goals
      go_ret
      exact ⟨rfl, bel1 _ _⟩

set_option maxRecDepth 100000 in
set_option maxHeartbeats 4000000 in
theorem rchk_mid (f t tl pr id fr : Int) (mo dn : Bool) (op da : ByteArray) (w : World) (ho : op.size ≤ 1125899906842624) (h1 : fitB f 4294967295 = true) (h2 : fitB t 4294967295 = true)
    (h : tl < 0 ∨ (0 ≤ tl ∧ 255 < tl) ∨ (0 ≤ tl ∧ tl ≤ 255) ∧ (pr < 0 ∨ (0 ≤ pr ∧ 255 < pr) ∨ (0 ≤ pr ∧ pr ≤ 255) ∧ (id < 0 ∨ (0 ≤ id ∧ 65535 < id) ∨ (0 ≤ id ∧ id ≤ 65535) ∧ (fr < 0 ∨ (0 ≤ fr ∧ 8191 < fr) ∨ (0 ≤ fr ∧ fr ≤ 8191) ∧ (((op.size : Int) % 4 != 0) = true ∨ ((op.size : Int) % 4 != 0) = false ∧ 40 < (op.size : Int)))))) :
    Calls Tryz.prog 38 #[.agg #[.int .i64 f, .int .i64 t, .int .i64 tl, .int .i64 pr, .int .i64 id, .int .i64 fr, .bool mo, .bool dn, .string op, .string da]] w fun e w' => e = .returned (.int .i64 50) ∧ Below w.heap.size w w' := by
  have ho' : (op.size : Int) ≤ 1125899906842624 := by omega
  rcases h with q | ⟨q, q1⟩ | ⟨⟨q, q1⟩, q2 | ⟨q2, q3⟩ | ⟨⟨q2, q3⟩, q4 | ⟨q4, q5⟩ | ⟨⟨q4, q5⟩, q6 | ⟨q6, q7⟩ | ⟨⟨q6, q7⟩, q8 | ⟨q8, q9⟩⟩⟩⟩⟩
  all_goals
    go_enter Tryz.func38, Tryz.ntmps38
    go_wp2_with (first | (go_at_call 75; refine (ric_t (by assumption) _).mono ?_; rintro e w1 ⟨rfl, rfl⟩))
    go_ret
    exact ⟨rfl, bel1 _ _⟩

set_option maxRecDepth 100000 in
set_option maxHeartbeats 4000000 in
theorem rchk_end (f t tl pr id fr : Int) (mo dn : Bool) (op da : ByteArray) (w : World) (b : Bool) (ho : op.size ≤ 1125899906842624) (hd : da.size ≤ 1125899906842624) (h1 : fitB f 4294967295 = true) (h2 : fitB t 4294967295 = true) (q0 : 0 ≤ tl) (q1 : tl ≤ 255) (q2 : 0 ≤ pr) (q3 : pr ≤ 255) (q4 : 0 ≤ id) (q5 : id ≤ 65535) (q6 : 0 ≤ fr) (q7 : fr ≤ 8191) (q8 : ((op.size : Int) % 4 != 0) = false) (q9 : (op.size : Int) ≤ 40)
    (h : b = false ∧ 65515 - (op.size : Int) < (da.size : Int) ∨ (da.size : Int) ≤ 65515 - (op.size : Int) ∧ (b = false ∧ mo = true ∧ (da.size : Int) = 0 ∨ b = false ∧ mo = true ∧ ((da.size : Int) == 0) = false ∧ ((da.size : Int) % 8 != 0) = true ∨ (mo = false ∨ mo = true ∧ ((da.size : Int) == 0) = false ∧ ((da.size : Int) % 8 != 0) = false) ∧ (b = false ∧ 65535 - 8 * fr < (da.size : Int) ∨ b = true ∧ (da.size : Int) ≤ 65535 - 8 * fr))) :
    Calls Tryz.prog 38 #[.agg #[.int .i64 f, .int .i64 t, .int .i64 tl, .int .i64 pr, .int .i64 id, .int .i64 fr, .bool mo, .bool dn, .string op, .string da]] w fun e w' => e = .returned (.int .i64 (codeP b)) ∧ Below w.heap.size w w' := by
  have ho' : (op.size : Int) ≤ 1125899906842624 := by omega
  have hd' : (da.size : Int) ≤ 1125899906842624 := by omega
  rcases h with ⟨rfl, a1⟩ | ⟨a1, ⟨rfl, rfl, a2⟩ | ⟨rfl, rfl, a2, a3⟩ | ⟨rfl | ⟨rfl, a2, a3⟩, ⟨rfl, a4⟩ | ⟨rfl, a4⟩⟩⟩
  all_goals
    go_enter Tryz.func38, Tryz.ntmps38
    go_wp2_with (first | (go_at_call 75; refine (ric_t (by assumption) _).mono ?_; rintro e w1 ⟨rfl, rfl⟩))
    go_ret
    exact ⟨rfl, bel1 _ _⟩

theorem rchk_any (f t tl pr id fr : Int) (mo dn : Bool) (op da : ByteArray) (w : World) (ho : op.size ≤ 1125899906842624) (hd : da.size ≤ 1125899906842624) :
    Calls Tryz.prog 38 #[.agg #[.int .i64 f, .int .i64 t, .int .i64 tl, .int .i64 pr, .int .i64 id, .int .i64 fr, .bool mo, .bool dn, .string op, .string da]] w fun e w' => e = .returned (.int .i64 (codeP (mayP f t tl pr id fr mo op.size da.size))) ∧ Below w.heap.size w w' := by
  rcases may_ways f t tl pr id fr mo op.size da.size with ⟨hm, a1⟩ | ⟨hm, a1, a2⟩ | ⟨hm, a1, a2, a3⟩ | ⟨hm, a1, a2, a3, a4⟩ | ⟨hm, a1, a2, a3, a4, a5⟩ | ⟨hm, a1, a2, a3, a4, a5, a6⟩ | ⟨hm, a1, a2, a3, a4, a5, a6, a7⟩ | ⟨hm, a1, a2, a3, a4, a5, a6, a7, a8⟩ | ⟨hm, a1, a2, a3, a4, a5, a6, a7, a8, a9, b0⟩
  · rw [hm]; exact rchk_bad f t tl pr id fr mo dn op da w (.inl a1)
  · rw [hm]; exact rchk_bad f t tl pr id fr mo dn op da w (.inr ⟨a1, a2⟩)
  · rw [hm]; refine rchk_mid f t tl pr id fr mo dn op da w ho a1 a2 ?_
    rcases fit_no a3 with q | q
    · exact .inl q
    · exact .inr (.inl q)
  · rw [hm]; refine rchk_mid f t tl pr id fr mo dn op da w ho a1 a2 (.inr (.inr ⟨fit_yes a3, ?_⟩))
    rcases fit_no a4 with q | q
    · exact .inl q
    · exact .inr (.inl q)
  · rw [hm]; refine rchk_mid f t tl pr id fr mo dn op da w ho a1 a2 (.inr (.inr ⟨fit_yes a3, .inr (.inr ⟨fit_yes a4, ?_⟩)⟩))
    rcases fit_no a5 with q | q
    · exact .inl q
    · exact .inr (.inl q)
  · rw [hm]; refine rchk_mid f t tl pr id fr mo dn op da w ho a1 a2 (.inr (.inr ⟨fit_yes a3, .inr (.inr ⟨fit_yes a4, .inr (.inr ⟨fit_yes a5, ?_⟩)⟩)⟩))
    rcases fit_no a6 with q | q
    · exact .inl q
    · exact .inr (.inl q)
  · rw [hm]; refine rchk_mid f t tl pr id fr mo dn op da w ho a1 a2 (.inr (.inr ⟨fit_yes a3, .inr (.inr ⟨fit_yes a4, .inr (.inr ⟨fit_yes a5, .inr (.inr ⟨fit_yes a6, .inl ?_⟩)⟩)⟩)⟩))
    simpa using a7
  · rw [hm]; refine rchk_mid f t tl pr id fr mo dn op da w ho a1 a2 (.inr (.inr ⟨fit_yes a3, .inr (.inr ⟨fit_yes a4, .inr (.inr ⟨fit_yes a5, .inr (.inr ⟨fit_yes a6, .inr ⟨?_, a8⟩⟩)⟩)⟩)⟩))
    simpa using a7
  · rw [hm]
    refine rchk_end f t tl pr id fr mo dn op da w _ ho hd a1 a2 (fit_yes a3).1 (fit_yes a3).2 (fit_yes a4).1 (fit_yes a4).2 (fit_yes a5).1 (fit_yes a5).2 a9 b0 (by simpa using a7) a8 ?_
    by_cases g1 : 65515 - (op.size : Int) < (da.size : Int)
    · exact .inl ⟨dataB_f (fun h => by have := h.2.1; omega), g1⟩
    · refine .inr ⟨by omega, ?_⟩
      by_cases g2 : mo = true ∧ (da.size : Int) = 0
      · exact .inl ⟨dataB_f (fun h => by have := (h.1 g2.1).1; omega), g2.1, g2.2⟩
      · by_cases g3 : mo = true ∧ ((da.size : Int) % 8 != 0) = true
        · refine .inr (.inl ⟨dataB_f (fun h => ?_), g3.1, ?_, g3.2⟩)
          · have := (h.1 g3.1).2
            have g4 := g3.2
            rw [bne_iff_ne] at g4
            omega
          · rw [beq_eq_false_iff_ne]; exact fun e => g2 ⟨g3.1, e⟩
        · have hmo : mo = false ∨ mo = true ∧ ((da.size : Int) == 0) = false ∧ ((da.size : Int) % 8 != 0) = false := by
            cases mo
            · exact .inl rfl
            · refine .inr ⟨rfl, by rw [beq_eq_false_iff_ne]; exact fun e => g2 ⟨rfl, e⟩, ?_⟩
              simpa using g3
          refine .inr (.inr ⟨hmo, ?_⟩)
          by_cases g5 : 65535 - 8 * fr < (da.size : Int)
          · exact .inl ⟨dataB_f (fun h => by have := h.2.2; omega), g5⟩
          · refine .inr ⟨dataB_t ⟨fun e => ?_, by omega, by omega⟩, by omega⟩
            rcases hmo with h | ⟨_, k1, k2⟩
            · rw [h] at e; cases e
            · rw [beq_eq_false_iff_ne] at k1
              rw [bne_eq_false_iff_eq] at k2
              omega
theorem rchk_t {f t tl pr id fr : Int} {mo dn : Bool} {op da : ByteArray} (h : mayP f t tl pr id fr mo op.size da.size = true) (w : World) (ho : op.size ≤ 1125899906842624) (hd : da.size ≤ 1125899906842624) : Calls Tryz.prog 38 #[.agg #[.int .i64 f, .int .i64 t, .int .i64 tl, .int .i64 pr, .int .i64 id, .int .i64 fr, .bool mo, .bool dn, .string op, .string da]] w fun e w' => e = .returned (.int .i64 0) ∧ Below w.heap.size w w' := by
  have := rchk_any f t tl pr id fr mo dn op da w ho hd; rw [h] at this; exact this
theorem rchk_f {f t tl pr id fr : Int} {mo dn : Bool} {op da : ByteArray} (h : mayP f t tl pr id fr mo op.size da.size = false) (w : World) (ho : op.size ≤ 1125899906842624) (hd : da.size ≤ 1125899906842624) : Calls Tryz.prog 38 #[.agg #[.int .i64 f, .int .i64 t, .int .i64 tl, .int .i64 pr, .int .i64 id, .int .i64 fr, .bool mo, .bool dn, .string op, .string da]] w fun e w' => e = .returned (.int .i64 50) ∧ Below w.heap.size w w' := by
  have := rchk_any f t tl pr id fr mo dn op da w ho hd; rw [h] at this; exact this

theorem chk_f {f t tl pr id fr : Int} {mo dn : Bool} {op da : ByteArray} (h : mayP f t tl pr id fr mo op.size da.size = false) (w : World) (ho : op.size ≤ 1125899906842624) (hd : da.size ≤ 1125899906842624) : Calls Tryz.prog 34 #[.agg #[.int .i64 f, .int .i64 t, .int .i64 tl, .int .i64 pr, .int .i64 id, .int .i64 fr, .bool mo, .bool dn, .string op, .string da]] w fun e w' => e = .returned (.int .i64 50) ∧ Below w.heap.size w w' := by
  have hl := bel1 w (.cells #[.int .i64 f, .int .i64 t, .int .i64 tl, .int .i64 pr, .int .i64 id, .int .i64 fr, .bool mo, .bool dn, .string op, .string da] 27)
  go_enter Tryz.func34, Tryz.ntmps34
  go_wp2_with fail
  refine (mp_f h _ ho hd).mono ?_
  rintro e w1 ⟨rfl, hb⟩
  go_wp2
  go_ret
  exact ⟨rfl, bt hl hb⟩
theorem rwhl_any (f t tl pr id fr : Int) (mo dn : Bool) (op da : ByteArray) (w : World) : Calls Tryz.prog 39 #[.agg #[.int .i64 f, .int .i64 t, .int .i64 tl, .int .i64 pr, .int .i64 id, .int .i64 fr, .bool mo, .bool dn, .string op, .string da]] w fun e w' => e = .returned (.bool (wholeB fr mo)) ∧ Below w.heap.size w w' := by
  unfold wholeB
  by_cases h : fr = 0
  · rw [decide_eq_true h]
    go_enter Tryz.func39, Tryz.ntmps39
    go_wp2
    go_ret
    exact ⟨ret_bool (by simp), bel1 _ _⟩
  · rw [decide_eq_false h]
    have h' : (fr == 0) = false := by simpa using h
    go_enter Tryz.func39, Tryz.ntmps39
    go_wp2
    go_ret
    exact ⟨rfl, bel1 _ _⟩

end Go.Proofs.YtkpdmgoldngdaaaGreatDoor.Ip

namespace Go.Proofs.YtkpdmgoldngdaaaGreatDoor.Ip
open Go.RowKit
set_option maxRecDepth 100000
set_option maxHeartbeats 1000000 in
theorem idec_1 {s : ByteArray} (h : (s.size : Int) < 8 ∨ 8 ≤ (s.size : Int) ∧ 65508 < (s.size : Int)) (w : World) (hs : s.size ≤ 1125899906842624) :
    Calls Tryz.prog 36 #[.string s] w fun e w' => e = .returned (.tuple #[.agg #[.int .i64 0, .int .i64 0, .int .i64 0, .int .i64 0, .string ⟨#[]⟩], .int .i64 60]) ∧ Below w.heap.size w w' := by
  have hs' : (s.size : Int) ≤ 1125899906842624 := by omega
  have hl := bel1 w (.cells #[.int .i64 0, .int .i64 0, .int .i64 0, .int .i64 0, .string ⟨#[]⟩] 29)
  rcases h with h | ⟨h, h2⟩
  all_goals
    go_enter Tryz.func36, Tryz.ntmps36
    go_wp2
    exact bodyPost_ret (v := .tuple #[.agg #[.int .i64 0, .int .i64 0, .int .i64 0, .int .i64 0, .string ⟨#[]⟩], .int .i64 60]) (by simp [results, Tryz.results36, go_sem]) rfl ⟨rfl, hl⟩
end Go.Proofs.YtkpdmgoldngdaaaGreatDoor.Ip

namespace Go.Proofs.YtkpdmgoldngdaaaGreatDoor.Ip
open Go.RowKit
set_option maxRecDepth 100000

theorem irwh_t {s : ByteArray} (h : (sumS s == 0) = true) (w : World) (hs : s.size ≤ maxLen) : Calls Tryz.prog 66 #[.string s] w fun e w' => e = .returned (.bool true) ∧ w' = w := by
  have := rwhole_any s w hs; rw [h] at this; exact this
theorem irwh_f {s : ByteArray} (h : (sumS s == 0) = false) (w : World) (hs : s.size ≤ maxLen) : Calls Tryz.prog 66 #[.string s] w fun e w' => e = .returned (.bool false) ∧ w' = w := by
  have := rwhole_any s w hs; rw [h] at this; exact this
theorem one_at (s : ByteArray) (i : Nat) (h : i < s.size) : (s[i].toNat : Int) = numS (s.extract i (i + 1)) := by
  unfold numS
  rw [ext_toList, show i + 1 - i = 1 by omega]
  have hl : i < s.data.toList.length := by rw [len_toList]; exact h
  rw [List.drop_eq_getElem_cons hl]
  simp [numL, ByteArray.getElem_eq_getElem_data]

set_option maxHeartbeats 1000000 in
theorem irdec_1 {s : ByteArray} (h : (s.size : Int) < 8 ∨ 8 ≤ (s.size : Int) ∧ 65508 < (s.size : Int)) (w : World) (hs : s.size ≤ 1125899906842624) :
    Calls Tryz.prog 40 #[.string s] w fun e w' => e = .returned (.tuple #[.agg #[.int .i64 0, .int .i64 0, .int .i64 0, .int .i64 0, .string ⟨#[]⟩], .int .i64 60]) ∧ Below w.heap.size w w' := by
  have hs' : (s.size : Int) ≤ 1125899906842624 := by omega
  have hl := bel1 w (.cells #[.int .i64 0, .int .i64 0, .int .i64 0, .int .i64 0, .string ⟨#[]⟩] 29)
  rcases h with h | ⟨h, h2⟩
  all_goals
    go_enter Tryz.func40, Tryz.ntmps40
    go_wp2
    exact bodyPost_ret (v := .tuple #[.agg #[.int .i64 0, .int .i64 0, .int .i64 0, .int .i64 0, .string ⟨#[]⟩], .int .i64 60]) (by simp [results, Tryz.results40, go_sem]) rfl ⟨rfl, hl⟩
set_option maxHeartbeats 1000000 in
theorem irdec_2 {s : ByteArray} (h8 : 8 ≤ (s.size : Int)) (h9 : (s.size : Int) ≤ 65508) (h : (sumS s == 0) = false) (w : World) :
    Calls Tryz.prog 40 #[.string s] w fun e w' => e = .returned (.tuple #[.agg #[.int .i64 0, .int .i64 0, .int .i64 0, .int .i64 0, .string ⟨#[]⟩], .int .i64 20]) ∧ Below w.heap.size w w' := by
  have hl := bel1 w (.cells #[.int .i64 0, .int .i64 0, .int .i64 0, .int .i64 0, .string ⟨#[]⟩] 29)
  have hR := At.box w #[.int .i64 0, .int .i64 0, .int .i64 0, .int .i64 0, .string ⟨#[]⟩] 29
  go_enter Tryz.func40, Tryz.ntmps40
  go_wp2_with fail
  refine (irwh_f h _ (by unfold maxLen; omega)).mono ?_
  rintro e w1 ⟨rfl, rfl⟩
  go_wp2
  exact bodyPost_ret (v := .tuple #[.agg #[.int .i64 0, .int .i64 0, .int .i64 0, .int .i64 0, .string ⟨#[]⟩], .int .i64 20]) (by simp [results, Tryz.results40, go_sem]) rfl ⟨rfl, hl⟩

theorem irun_sl (s : ByteArray) (a b : Nat) (v : ByteArray) (hx : s.extract a b = v) (h : b ≤ s.size) (hab : a ≤ b) : ∀ W, (Instr.slice 9 (.string s) (some (.int .i64 (a : Int))) (some (.int .i64 (b : Int))) none).run Tryz.prog W = .ok (.string v) W := fun W => by
  rw [run_slice_string_if W 9 s .i64 .i64 a b Tryz.underlying9, if_pos ⟨by omega, by omega⟩, if_pos ⟨by omega, by omega⟩, ← hx]; rfl
theorem irun_from (s : ByteArray) (a : Nat) (v : ByteArray) (hx : s.extract a s.size = v) (h : a ≤ s.size) : ∀ W, (Instr.slice 9 (.string s) (some (.int .i64 (a : Int))) none none).run Tryz.prog W = .ok (.string v) W := fun W => by
  rw [run_slice_string_from_if W 9 s .i64 a Tryz.underlying9, if_pos ⟨by omega, by omega⟩, ← hx]; rfl
theorem irun_ix (s : ByteArray) (i : Nat) (x : Int) (h : i < s.size) (hx : (s[i].toNat : Int) = x) : ∀ W, (Instr.index 9 (.string s) (.int .i64 (i : Int))).run Tryz.prog W = .ok (.int .u8 x) W := fun W => by
  rw [run_index_string W 9 s .i64 i Tryz.underlying9, dif_pos ⟨by omega, by omega⟩, ← hx]; rfl

set_option maxRecDepth 100000 in
set_option maxHeartbeats 4000000 in
theorem irdec_e {s : ByteArray} (h8 : 8 ≤ (s.size : Int)) (h9 : (s.size : Int) ≤ 65508) (h : (sumS s == 0) = true) (w : World) (X1 X2 X3 X4 : Int) (X5 V3 V4 : ByteArray)
    (n3 : numS V3 = X3) (n4 : numS V4 = X4) (z3 : V3.size ≤ 6) (z4 : V4.size ≤ 6)
    (i1 : ∀ W, (Instr.index 9 (.string s) (.int .i64 0)).run Tryz.prog W = .ok (.int .u8 X1) W)
    (i2 : ∀ W, (Instr.index 9 (.string s) (.int .i64 1)).run Tryz.prog W = .ok (.int .u8 X2) W)
    (q3 : ∀ W, (Instr.slice 9 (.string s) (some (.int .i64 4)) (some (.int .i64 6)) none).run Tryz.prog W = .ok (.string V3) W)
    (q4 : ∀ W, (Instr.slice 9 (.string s) (some (.int .i64 6)) (some (.int .i64 8)) none).run Tryz.prog W = .ok (.string V4) W)
    (q5 : ∀ W, (Instr.slice 9 (.string s) (some (.int .i64 8)) none none).run Tryz.prog W = .ok (.string X5) W)
    (y1 : IntKind.i64.wrap X1 = X1) (y2 : IntKind.i64.wrap X2 = X2) :
    Calls Tryz.prog 40 #[.string s] w fun e w' => e = .returned (.tuple #[.agg #[.int .i64 X1, .int .i64 X2, .int .i64 X3, .int .i64 X4, .string X5], .int .i64 0]) ∧ Below w.heap.size w w' := by
  have hl := bel1 w (.cells #[.int .i64 0, .int .i64 0, .int .i64 0, .int .i64 0, .string ⟨#[]⟩] 29)
  have hR := At.box w #[.int .i64 0, .int .i64 0, .int .i64 0, .int .i64 0, .string ⟨#[]⟩] 29
  go_enter Tryz.func40, Tryz.ntmps40
  go_wp2_with fail
  refine (irwh_t h _ (by unfold maxLen; omega)).mono ?_
  rintro e w1 ⟨rfl, rfl⟩
  go_wp2
  refine wp_region_any (by kernel_rfl) ?_
  have HS0 : Below w.heap.size w (w.alloc (.cells #[.int .i64 0, .int .i64 0, .int .i64 0, .int .i64 0, .string ⟨#[]⟩] 29)).drew ∧ At (w.alloc (.cells #[.int .i64 0, .int .i64 0, .int .i64 0, .int .i64 0, .string ⟨#[]⟩] 29)).drew w.heap.size #[.int .i64 0, .int .i64 0, .int .i64 0, .int .i64 0, .string ⟨#[]⟩] := ⟨hl.drew, hR⟩
  clear hl hR
  refine region_facts_tail (fun W => Below w.heap.size w W ∧ At W w.heap.size #[.int .i64 0, .int .i64 0, .int .i64 0, .int .i64 0, .string ⟨#[]⟩]) (GV (fun i => match i with | 0 => .string s | 1 => .int .u8 X1 | 2 => .int .i64 X1 | 3 => .string s | 4 => .int .u8 X2 | 5 => .int .i64 X2 | 6 => .string s | 7 => .string V3 | 8 => .int .i64 X3 | 9 => .string s | 10 => .string V4 | 11 => .int .i64 X4 | 12 => .string s | 13 => .string X5 | 14 => .agg #[.int .i64 X1, .int .i64 X2, .int .i64 X3, .int .i64 X4, .string X5] | _ => undef) (fun _ => none)) (n := 32) 15 (by kernel_rfl) (by kernel_rfl) rfl (by kernel_rfl) (GV_later _ _) ?_ ?_ HS0 (Nat.le_refl _)
  · clear HS0
    refine ⟨?_, ?_, ?_, ?_, ?_, ?_, ?_, ?_, ?_, ?_, ?_, ?_, ?_, ?_, ?_, trivial⟩
    · intro a w1 hS hT hB hD K hK
      have b0 : a.tmps.getD 0 undef = .string s := hB 0 (by kernel_rfl)
      rw [if_pos (by rfl)]
      clear hB hD hT
      go_simp
      exact hK _ _ hS (Below.refl _ _) rfl
    · intro a w1 hS hT hB hD K hK
      have d17 : a.tmps.getD 17 undef = .string s := hD ⟨0, .data⟩ (by simp) rfl _ 17 rfl rfl
      rw [if_pos (by rfl)]
      clear hB hD hT
      go_simp
      exact hK _ _ hS (Below.refl _ _) rfl
    · intro a w1 hS hT hB hD K hK
      have d18 : a.tmps.getD 18 undef = .int .u8 X1 := hD ⟨1, .data⟩ (by simp) rfl _ 18 rfl rfl
      rw [if_pos (by rfl)]
      clear hB hD hT
      go_simp
      exact hK _ _ hS (Below.refl _ _) rfl
    · intro a w1 hS hT hB hD K hK
      have b0 : a.tmps.getD 0 undef = .string s := hB 0 (by kernel_rfl)
      rw [if_pos (by rfl)]
      clear hB hD hT
      go_simp
      exact hK _ _ hS (Below.refl _ _) rfl
    · intro a w1 hS hT hB hD K hK
      have d20 : a.tmps.getD 20 undef = .string s := hD ⟨3, .data⟩ (by simp) rfl _ 20 rfl rfl
      rw [if_pos (by rfl)]
      clear hB hD hT
      go_simp
      exact hK _ _ hS (Below.refl _ _) rfl
    · intro a w1 hS hT hB hD K hK
      have d21 : a.tmps.getD 21 undef = .int .u8 X2 := hD ⟨4, .data⟩ (by simp) rfl _ 21 rfl rfl
      rw [if_pos (by rfl)]
      clear hB hD hT
      go_simp
      exact hK _ _ hS (Below.refl _ _) rfl
    · intro a w1 hS hT hB hD K hK
      have b0 : a.tmps.getD 0 undef = .string s := hB 0 (by kernel_rfl)
      rw [if_pos (by rfl)]
      clear hB hD hT
      go_simp
      exact hK _ _ hS (Below.refl _ _) rfl
    · intro a w1 hS hT hB hD K hK
      have d23 : a.tmps.getD 23 undef = .string s := hD ⟨6, .data⟩ (by simp) rfl _ 23 rfl rfl
      rw [if_pos (by rfl)]
      clear hB hD hT
      go_simp
      exact hK _ _ hS (Below.refl _ _) rfl
    · intro a w1 hS hT hB hD K hK
      have d24 : a.tmps.getD 24 undef = .string V3 := hD ⟨7, .data⟩ (by simp) rfl _ 24 rfl rfl
      rw [if_pos (by rfl)]
      clear hB hD hT
      go_simp
      refine (num_any _ _ (by assumption)).mono ?_
      rintro e w' ⟨rfl, rfl⟩
      exact hK _ _ hS (Below.refl _ _) (by show Value.int .i64 _ = Value.int .i64 _; congr)
    · intro a w1 hS hT hB hD K hK
      have b0 : a.tmps.getD 0 undef = .string s := hB 0 (by kernel_rfl)
      rw [if_pos (by rfl)]
      clear hB hD hT
      go_simp
      exact hK _ _ hS (Below.refl _ _) rfl
    · intro a w1 hS hT hB hD K hK
      have d26 : a.tmps.getD 26 undef = .string s := hD ⟨9, .data⟩ (by simp) rfl _ 26 rfl rfl
      rw [if_pos (by rfl)]
      clear hB hD hT
      go_simp
      exact hK _ _ hS (Below.refl _ _) rfl
    · intro a w1 hS hT hB hD K hK
      have d27 : a.tmps.getD 27 undef = .string V4 := hD ⟨10, .data⟩ (by simp) rfl _ 27 rfl rfl
      rw [if_pos (by rfl)]
      clear hB hD hT
      go_simp
      refine (num_any _ _ (by assumption)).mono ?_
      rintro e w' ⟨rfl, rfl⟩
      exact hK _ _ hS (Below.refl _ _) (by show Value.int .i64 _ = Value.int .i64 _; congr)
    · intro a w1 hS hT hB hD K hK
      have b0 : a.tmps.getD 0 undef = .string s := hB 0 (by kernel_rfl)
      rw [if_pos (by rfl)]
      clear hB hD hT
      go_simp
      exact hK _ _ hS (Below.refl _ _) rfl
    · intro a w1 hS hT hB hD K hK
      have d29 : a.tmps.getD 29 undef = .string s := hD ⟨12, .data⟩ (by simp) rfl _ 29 rfl rfl
      rw [if_pos (by rfl)]
      clear hB hD hT
      go_simp
      exact hK _ _ hS (Below.refl _ _) rfl
    · intro a w1 hS hT hB hD K hK
      have d19 : a.tmps.getD 19 undef = .int .i64 X1 := hD ⟨2, .data⟩ (by simp) rfl _ 19 rfl rfl
      have d22 : a.tmps.getD 22 undef = .int .i64 X2 := hD ⟨5, .data⟩ (by simp) rfl _ 22 rfl rfl
      have d25 : a.tmps.getD 25 undef = .int .i64 X3 := hD ⟨8, .data⟩ (by simp) rfl _ 25 rfl rfl
      have d28 : a.tmps.getD 28 undef = .int .i64 X4 := hD ⟨11, .data⟩ (by simp) rfl _ 28 rfl rfl
      have d30 : a.tmps.getD 30 undef = .string X5 := hD ⟨13, .data⟩ (by simp) rfl _ 30 rfl rfl
      clear hB hD
      obtain ⟨⟨l⟩, df⟩ := a
      match l, hT with
      | x0 :: x1 :: x2 :: x3 :: x4 :: x5 :: x6 :: x7 :: x8 :: x9 :: x10 :: x11 :: x12 :: x13 :: x14 :: x15 :: x16 :: x17 :: x18 :: x19 :: x20 :: x21 :: x22 :: x23 :: x24 :: x25 :: x26 :: x27 :: x28 :: x29 :: x30 :: x31 :: [], _ =>
        have q19 : x19 = .int .i64 X1 := d19
        have q22 : x22 = .int .i64 X2 := d22
        have q25 : x25 = .int .i64 X3 := d25
        have q28 : x28 = .int .i64 X4 := d28
        have q30 : x30 = .string X5 := d30
        clear d19 d22 d25 d28 d30
        subst q19 q22 q25 q28 q30
        rw [if_pos (by rfl)]
        go_simp
        exact hK _ _ hS (Below.refl _ _) rfl
  · intro a w1 hS hT hdf hB hF
    clear HS0
    obtain ⟨⟨l⟩, df⟩ := a
    match l, hT with
    | x0 :: x1 :: x2 :: x3 :: x4 :: x5 :: x6 :: x7 :: x8 :: x9 :: x10 :: x11 :: x12 :: x13 :: x14 :: x15 :: x16 :: x17 :: x18 :: x19 :: x20 :: x21 :: x22 :: x23 :: x24 :: x25 :: x26 :: x27 :: x28 :: x29 :: x30 :: x31 :: [], _ =>
      have s2 : x2 = .pointer (some ⟨w.heap.size, 0, none⟩) := hB 2 (by kernel_rfl)
      have s31 : x31 = .agg #[.int .i64 X1, .int .i64 X2, .int .i64 X3, .int .i64 X4, .string X5] := hF 14 _ 31 (by decide) rfl rfl
      have sd : df = [] := hdf
      subst s2 s31 sd
      clear hB hF
      obtain ⟨⟨r0, r1, r2, r3, r4⟩, ⟨f0, f1, f2, f3, f4⟩, hlt⟩ := hS.2.five
      intro K hK
      rw [if_pos (by rfl)]
      go_simp
      apply hK
      clear hK K
      intro K hK
      rw [if_pos (by rfl)]
      go_simp
      apply hK
      clear hK K
      refine TailOk_nil ?_
      go_wp2
      exact bodyPost_ret (v := .tuple #[.agg #[.int .i64 X1, .int .i64 X2, .int .i64 X3, .int .i64 X4, .string X5], .int .i64 0]) (by simp [results, Tryz.results40, go_sem, r0, r1, r2, r3, r4]) rfl ⟨rfl, below5 hS.1 (Nat.le_refl _) _ _ _ _ _⟩
theorem irdec_3 {s : ByteArray} (h8 : 8 ≤ (s.size : Int)) (h9 : (s.size : Int) ≤ 65508) (h : (sumS s == 0) = true) (w : World) :
    Calls Tryz.prog 40 #[.string s] w fun e w' => e = .returned (.tuple #[.agg #[.int .i64 (iTy s), .int .i64 (iCo s), .int .i64 (iX s), .int .i64 (iY s), .string (iDa s)], .int .i64 0]) ∧ Below w.heap.size w w' := by
  have e1 : (s[0].toNat : Int) = iTy s := one_at s 0 (by omega)
  have e2 : (s[1].toNat : Int) = iCo s := one_at s 1 (by omega)
  have b1 : 0 ≤ iTy s ∧ iTy s ≤ 255 := by rw [← e1]; have := (s[0]'(by omega)).toNat_lt; omega
  have b2 : 0 ≤ iCo s ∧ iCo s ≤ 255 := by rw [← e2]; have := (s[1]'(by omega)).toNat_lt; omega
  exact irdec_e h8 h9 h w (iTy s) (iCo s) (iX s) (iY s) (iDa s) (s.extract 4 6) (s.extract 6 8) rfl rfl (by rw [ByteArray.size_extract]; omega) (by rw [ByteArray.size_extract]; omega) (irun_ix s 0 _ (by omega) e1) (irun_ix s 1 _ (by omega) e2) (irun_sl s 4 6 _ rfl (by omega) (by decide)) (irun_sl s 6 8 _ rfl (by omega) (by decide)) (irun_from s 8 _ rfl (by omega)) (by rw [IntKind.wrap_i64]; omega) (by rw [IntKind.wrap_i64]; omega)
end Go.Proofs.YtkpdmgoldngdaaaGreatDoor.Ip
