/- the texts Ics, Icd, in part, merged by program -/
import Derived.Test.YtkpdmgoldngdaaaGreatDoorRows
import Derived.WalkKit
import Derived.WalkSpells
import Derived.Deep.RegionHeld3
import Derived.Deep.QuietTactic
import Derived.BigQuiet
import Derived.WalkSmall
import Derived.Deep.RegionWith
import Derived.LoopN
import Derived.Test.YtkpdmgoldngdaaaGreatDoorMA01
import Derived.Test.YtkpdmgoldngdaaaGreatDoorMA03
namespace Go.Proofs.YtkpdmgoldngdaaaGreatDoor.Ip
open Go.RowKit
set_option maxRecDepth 100000
theorem At.five {W : World} {b : Nat} {v0 v1 v2 v3 v4 : Value} (h : At W b #[v0, v1, v2, v3, v4]) : (W.cell? ⟨b, 0, none⟩ = some v0 ∧ W.cell? ⟨b, 1, none⟩ = some v1 ∧ W.cell? ⟨b, 2, none⟩ = some v2 ∧ W.cell? ⟨b, 3, none⟩ = some v3 ∧ W.cell? ⟨b, 4, none⟩ = some v4) ∧ (W.frozen? ⟨b, 0, none⟩ = false ∧ W.frozen? ⟨b, 1, none⟩ = false ∧ W.frozen? ⟨b, 2, none⟩ = false ∧ W.frozen? ⟨b, 3, none⟩ = false ∧ W.frozen? ⟨b, 4, none⟩ = false) ∧ b < W.heap.size :=
  ⟨⟨(h.2 0 _ rfl).1, (h.2 1 _ rfl).1, (h.2 2 _ rfl).1, (h.2 3 _ rfl).1, (h.2 4 _ rfl).1⟩, ⟨(h.2 0 _ rfl).2, (h.2 1 _ rfl).2, (h.2 2 _ rfl).2, (h.2 3 _ rfl).2, (h.2 4 _ rfl).2⟩, h.1⟩
theorem below5 {w W : World} {b : Nat} (h : Below w.heap.size w W) (hb : w.heap.size ≤ b) (v0 v1 v2 v3 v4 : Value) : Below w.heap.size w (((((W.setCell ⟨b, 0, none⟩ v0).setCell ⟨b, 1, none⟩ v1).setCell ⟨b, 2, none⟩ v2).setCell ⟨b, 3, none⟩ v3).setCell ⟨b, 4, none⟩ v4) :=
  ((((h.setCell hb _).setCell hb _).setCell hb _).setCell hb _).setCell hb _

end Go.Proofs.YtkpdmgoldngdaaaGreatDoor.Ip

namespace Go.Proofs.YtkpdmgoldngdaaaGreatDoor.Ip
open Go.RowKit
set_option maxRecDepth 100000

def iTy (s : ByteArray) : Int := numS (s.extract 0 1)
def iCo (s : ByteArray) : Int := numS (s.extract 1 2)
def iX (s : ByteArray) : Int := numS (s.extract 4 6)
def iY (s : ByteArray) : Int := numS (s.extract 6 8)
def iDa (s : ByteArray) : ByteArray := s.extract 8 s.size
theorem iget_c (s : ByteArray) (off k : Int) (w : World) (hs : s.size ≤ maxLen) : Calls Tryz.prog 71 #[.string s, .int .i64 off, .int .i64 k] w fun e w' => e = .returned (.int .i64 (getV s off k)) ∧ Below w.heap.size w w' := by
  go_enter Tryz.func71, Tryz.ntmps71
  go_wp2_with fail
  refine (get_any s off k _ hs).mono ?_
  rintro e w1 ⟨rfl, hb⟩
  go_wp2
  go_ret
  exact ⟨rfl, hb⟩
theorem igetV_is (s : ByteArray) (off k : Int) (a b : Nat) (ha : off = a) (hb : off + k = b) (hk : 1 ≤ k ∧ k ≤ 6) (h8 : 8 ≤ (s.size : Int)) (h : off + k ≤ 8) : getV s off k = numS (s.extract a b) := by
  unfold getV
  rw [getB_t ⟨hk.1, hk.2, by omega, by omega⟩, if_pos rfl, hb, ha]
  rfl
theorem iwh_t {s : ByteArray} (h : (sumS s == 0) = true) (w : World) (hs : s.size ≤ 140737488355328) : Calls Tryz.prog 70 #[.string s] w fun e w' => e = .returned (.bool true) ∧ Below w.heap.size w w' := by
  have := whole_any s w hs; rw [h] at this; exact this
theorem iwh_f {s : ByteArray} (h : (sumS s == 0) = false) (w : World) (hs : s.size ≤ 140737488355328) : Calls Tryz.prog 70 #[.string s] w fun e w' => e = .returned (.bool false) ∧ Below w.heap.size w w' := by
  have := whole_any s w hs; rw [h] at this; exact this

set_option maxHeartbeats 1000000 in
theorem idec_2 {s : ByteArray} (h8 : 8 ≤ (s.size : Int)) (h9 : (s.size : Int) ≤ 65508) (h : (sumS s == 0) = false) (w : World) :
    Calls Tryz.prog 36 #[.string s] w fun e w' => e = .returned (.tuple #[.agg #[.int .i64 0, .int .i64 0, .int .i64 0, .int .i64 0, .string ⟨#[]⟩], .int .i64 20]) ∧ Below w.heap.size w w' := by
  have hl := bel1 w (.cells #[.int .i64 0, .int .i64 0, .int .i64 0, .int .i64 0, .string ⟨#[]⟩] 29)
  have hR := At.box w #[.int .i64 0, .int .i64 0, .int .i64 0, .int .i64 0, .string ⟨#[]⟩] 29
  go_enter Tryz.func36, Tryz.ntmps36
  go_wp2_with fail
  refine (iwh_f h _ (by omega)).mono ?_
  rintro e w1 ⟨rfl, hb⟩
  have hl := bt hl hb
  obtain ⟨⟨r0, r1, r2, r3, r4⟩, ⟨f0, f1, f2, f3, f4⟩, hlt⟩ := (hR.later hb).five
  clear hR hb
  go_wp2
  exact bodyPost_ret (v := .tuple #[.agg #[.int .i64 0, .int .i64 0, .int .i64 0, .int .i64 0, .string ⟨#[]⟩], .int .i64 20]) (by simp [results, Tryz.results36, go_sem, r0, r1, r2, r3, r4]) rfl ⟨rfl, below5 hl (Nat.le_refl _) _ _ _ _ _⟩
set_option maxRecDepth 100000 in
set_option maxHeartbeats 4000000 in
theorem idec_3 {s : ByteArray} (h8 : 8 ≤ (s.size : Int)) (h9 : (s.size : Int) ≤ 65508) (h : (sumS s == 0) = true) (w : World) :
    Calls Tryz.prog 36 #[.string s] w fun e w' => e = .returned (.tuple #[.agg #[.int .i64 (iTy s), .int .i64 (iCo s), .int .i64 (iX s), .int .i64 (iY s), .string (iDa s)], .int .i64 0]) ∧ Below w.heap.size w w' := by
  have hsm : s.size ≤ maxLen := by unfold maxLen; omega
  have hl := bel1 w (.cells #[.int .i64 0, .int .i64 0, .int .i64 0, .int .i64 0, .string ⟨#[]⟩] 29)
  have hR := At.box w #[.int .i64 0, .int .i64 0, .int .i64 0, .int .i64 0, .string ⟨#[]⟩] 29
  have e1 : getV s 0 1 = iTy s := igetV_is s 0 1 0 1 rfl rfl (by decide) h8 (by decide)
  have e2 : getV s 1 1 = iCo s := igetV_is s 1 1 1 2 rfl rfl (by decide) h8 (by decide)
  have e3 : getV s 4 2 = iX s := igetV_is s 4 2 4 6 rfl rfl (by decide) h8 (by decide)
  have e4 : getV s 6 2 = iY s := igetV_is s 6 2 6 8 rfl rfl (by decide) h8 (by decide)
  have x1 : s.extract 8 s.size = iDa s := rfl
  have hg := fun W off k => iget_c s off k W hsm
  have hwh := fun W => iwh_t h W (by omega)
  clear h
  generalize iTy s = X1 at *
  generalize iCo s = X2 at *
  generalize iX s = X3 at *
  generalize iY s = X4 at *
  generalize iDa s = X5 at *
  go_enter Tryz.func36, Tryz.ntmps36
  go_wp2_with fail
  refine (hwh _).mono ?_
  rintro e w1 ⟨rfl, hb⟩
  have hl := bt hl hb
  replace hR := hR.later hb
  clear hb hwh
  have hR : At w1.drew w.heap.size #[.int .i64 0, .int .i64 0, .int .i64 0, .int .i64 0, .string ⟨#[]⟩] := hR
  have hl : Below w.heap.size w w1.drew := hl.drew
  go_wp2
  go_region_with (first | (go_at_call 71; refine (hg _ _ _).mono ?_; rintro e w' ⟨rfl, hb⟩; replace hl := bt hl hb; replace hR := hR.later hb; clear hb; (try clear hx); have hx := hR.five))
  all_goals
    obtain ⟨⟨r0, r1, r2, r3, r4⟩, -, hlt⟩ := hx
    go_wp2
    exact bodyPost_ret (v := .tuple #[.agg #[.int .i64 X1, .int .i64 X2, .int .i64 X3, .int .i64 X4, .string X5], .int .i64 0]) (by simp [results, Tryz.results36, go_sem, r0, r1, r2, r3, r4]) rfl ⟨rfl, below5 hl (Nat.le_refl _) _ _ _ _ _⟩
end Go.Proofs.YtkpdmgoldngdaaaGreatDoor.Ip
