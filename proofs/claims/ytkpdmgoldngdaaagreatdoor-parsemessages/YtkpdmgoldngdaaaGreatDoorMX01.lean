/- the texts Arps, Acalls, Aenc, Abacks, in part, merged by program -/
import Derived.Test.YtkpdmgoldngdaaaGreatDoorRows
import Derived.WalkKit
import Derived.WalkSpells
import Derived.Deep.RegionHeld3
import Derived.Deep.QuietTactic
import Derived.BigQuiet
import Derived.WalkSmall
import Derived.Test.YtkpdmgoldngdaaaGreatDoorMA01
import Derived.Test.YtkpdmgoldngdaaaGreatDoorMA02
import Derived.Test.YtkpdmgoldngdaaaGreatDoorMD01
import Derived.Test.YtkpdmgoldngdaaaGreatDoorMG01
import Derived.Test.YtkpdmgoldngdaaaGreatDoorMH01
import Derived.Test.YtkpdmgoldngdaaaGreatDoorMN01
import Derived.Test.YtkpdmgoldngdaaaGreatDoorMO01
import Derived.Test.YtkpdmgoldngdaaaGreatDoorMO02
import Derived.Test.YtkpdmgoldngdaaaGreatDoorMQ01
namespace Go.Proofs.YtkpdmgoldngdaaaGreatDoor.Eth.Arp
open Go.RowKit
set_option maxRecDepth 100000
theorem mayA_parts {o fm fi tm ti : Int} (h : mayA o fm fi tm ti = true) : (o = 1 ∨ o = 2) ∧ (0 ≤ fm ∧ fm ≤ 281474976710655) ∧ fm / 1099511627776 % 2 = 0 ∧ (0 ≤ fi ∧ fi ≤ 4294967295) ∧ (0 ≤ tm ∧ tm ≤ 281474976710655) ∧ (0 ≤ ti ∧ ti ≤ 4294967295) := of_decide_eq_true h

end Go.Proofs.YtkpdmgoldngdaaaGreatDoor.Eth.Arp

namespace Go.Proofs.YtkpdmgoldngdaaaGreatDoor.Eth.Arp
open Go.RowKit
set_option maxRecDepth 100000
theorem ask_t {mac ip want : Int} (h : mayA 1 mac ip 0 want = true) (w : World) :
    Calls Tryz.prog 23 #[.int .i64 mac, .int .i64 ip, .int .i64 want] w fun e w' => e = .returned (.tuple #[.agg #[.int .i64 1, .int .i64 mac, .int .i64 ip, .int .i64 0, .int .i64 want], .int .i64 0]) ∧ Below w.heap.size w w' := by
  have hR := At.box w #[.int .i64 0, .int .i64 0, .int .i64 0, .int .i64 0, .int .i64 0] 25
  have hl := bel1 w (.cells #[.int .i64 0, .int .i64 0, .int .i64 0, .int .i64 0, .int .i64 0] 25)
  go_enter Tryz.func23, Tryz.ntmps23
  go_wp2_with fail
  refine (ckd_t h _).mono ?_
  rintro e w1 ⟨rfl, hb⟩
  have hl := bt hl hb
  obtain ⟨⟨r0, r1, r2, r3, r4⟩, ⟨f0, f1, f2, f3, f4⟩, hlt⟩ := (hR.later hb).five
  clear hR hb
  go_wp2
  exact bodyPost_ret (v := .tuple #[.agg #[.int .i64 1, .int .i64 mac, .int .i64 ip, .int .i64 0, .int .i64 want], .int .i64 0]) (by simp [results, Tryz.results23, go_sem, r0, r1, r2, r3, r4]) rfl ⟨rfl, below5 hl (Nat.le_refl _) _ _ _ _ _⟩

theorem ask_f {mac ip want : Int} (h : mayA 1 mac ip 0 want = false) (w : World) :
    Calls Tryz.prog 23 #[.int .i64 mac, .int .i64 ip, .int .i64 want] w fun e w' => e = .returned (.tuple #[.agg #[.int .i64 0, .int .i64 0, .int .i64 0, .int .i64 0, .int .i64 0], .int .i64 40]) ∧ Below w.heap.size w w' := by
  have hR := At.box w #[.int .i64 0, .int .i64 0, .int .i64 0, .int .i64 0, .int .i64 0] 25
  have hl := bel1 w (.cells #[.int .i64 0, .int .i64 0, .int .i64 0, .int .i64 0, .int .i64 0] 25)
  go_enter Tryz.func23, Tryz.ntmps23
  go_wp2_with fail
  refine (ckd_f h _).mono ?_
  rintro e w1 ⟨rfl, hb⟩
  have hl := bt hl hb
  obtain ⟨⟨r0, r1, r2, r3, r4⟩, ⟨f0, f1, f2, f3, f4⟩, hlt⟩ := (hR.later hb).five
  clear hR hb
  go_wp2
  exact bodyPost_ret (v := .tuple #[.agg #[.int .i64 0, .int .i64 0, .int .i64 0, .int .i64 0, .int .i64 0], .int .i64 40]) (by simp [results, Tryz.results23, go_sem, r0, r1, r2, r3, r4]) rfl ⟨rfl, below5 hl (Nat.le_refl _) _ _ _ _ _⟩

end Go.Proofs.YtkpdmgoldngdaaaGreatDoor.Eth.Arp

namespace Go.Proofs.YtkpdmgoldngdaaaGreatDoor.Eth.Arp
open Go.RowKit
set_option maxRecDepth 100000
def encA (o fm fi tm ti : Int) : ByteArray := ⟨#[0, 1, 8, 0, 6, 4]⟩ ++ txt o 2 ++ txt fm 6 ++ txt fi 4 ++ txt tm 6 ++ txt ti 4
theorem put_k (n k : Int) (w : World) (hk : 1 ≤ k ∧ k ≤ 6) (h : 0 ≤ n ∧ n < 2 ^ (8 * k.toNat)) :
    Calls Tryz.prog 57 #[.int .i64 n, .int .i64 k] w fun e w' => e = .returned (.tuple #[.string (txt n k.toNat), .int .i64 0]) ∧ Below w.heap.size w w' := by
  have hp : putB n k = true := putB_t ⟨hk.1, hk.2, h.1, h.2⟩
  have := pput_any n k w
  unfold putV at this
  rw [hp] at this
  exact this
theorem put_2 {n : Int} (h : 0 ≤ n ∧ n ≤ 65535) (w : World) : Calls Tryz.prog 57 #[.int .i64 n, .int .i64 2] w fun e w' => e = .returned (.tuple #[.string (txt n 2), .int .i64 0]) ∧ Below w.heap.size w w' := put_k n 2 w (by decide) ⟨h.1, by have := h.2; simp; omega⟩
theorem put_4 {n : Int} (h : 0 ≤ n ∧ n ≤ 4294967295) (w : World) : Calls Tryz.prog 57 #[.int .i64 n, .int .i64 4] w fun e w' => e = .returned (.tuple #[.string (txt n 4), .int .i64 0]) ∧ Below w.heap.size w w' := put_k n 4 w (by decide) ⟨h.1, by have := h.2; simp; omega⟩
theorem put_6 {n : Int} (h : 0 ≤ n ∧ n ≤ 281474976710655) (w : World) : Calls Tryz.prog 57 #[.int .i64 n, .int .i64 6] w fun e w' => e = .returned (.tuple #[.string (txt n 6), .int .i64 0]) ∧ Below w.heap.size w w' := put_k n 6 w (by decide) ⟨h.1, by have := h.2; simp; omega⟩
theorem encA_size (o fm fi tm ti : Int) : (encA o fm fi tm ti).size = 28 := by
  unfold encA
  simp only [ByteArray.size_append, txt_size]
  rfl

set_option maxHeartbeats 1000000 in
theorem enc_y {o fm fi tm ti : Int} (h : mayA o fm fi tm ti = true) (w : World) :
    Calls Tryz.prog 24 #[.agg #[.int .i64 o, .int .i64 fm, .int .i64 fi, .int .i64 tm, .int .i64 ti]] w fun e w' => e = .returned (.tuple #[.string (encA o fm fi tm ti), .int .i64 0]) ∧ Below w.heap.size w w' := by
  have hA := At.box w #[.int .i64 o, .int .i64 fm, .int .i64 fi, .int .i64 tm, .int .i64 ti] 25
  have hl := bel1 w (.cells #[.int .i64 o, .int .i64 fm, .int .i64 fi, .int .i64 tm, .int .i64 ti] 25)
  obtain ⟨ho, hfm, -, hfi, htm, hti⟩ := mayA_parts h
  have z1 := txt_size o 2
  have z2 := txt_size fm 6
  have z3 := txt_size fi 4
  have z4 := txt_size tm 6
  have z5 := txt_size ti 4
  go_enter Tryz.func24, Tryz.ntmps24
  go_wp2_with fail
  refine (amay_t h _).mono ?_
  rintro e w1 ⟨rfl, hb⟩
  have hl := bt hl hb
  have hA := hA.later hb
  obtain ⟨⟨c0, c1, c2, c3, c4⟩, -, -⟩ := hA.five
  clear hb
  go_wp2_with fail
  refine (put_2 ⟨by omega, by omega⟩ _).mono ?_
  rintro e w2 ⟨rfl, hb⟩
  have hl := bt hl hb
  have hA := hA.later hb
  clear c0 c1 c2 c3 c4 hb
  obtain ⟨⟨c0, c1, c2, c3, c4⟩, -, -⟩ := hA.five
  go_wp2_with fail
  refine (put_6 hfm _).mono ?_
  rintro e w3 ⟨rfl, hb⟩
  have hl := bt hl hb
  have hA := hA.later hb
  clear c0 c1 c2 c3 c4 hb
  obtain ⟨⟨c0, c1, c2, c3, c4⟩, -, -⟩ := hA.five
  go_wp2_with fail
  refine (put_4 hfi _).mono ?_
  rintro e w4 ⟨rfl, hb⟩
  have hl := bt hl hb
  have hA := hA.later hb
  clear c0 c1 c2 c3 c4 hb
  obtain ⟨⟨c0, c1, c2, c3, c4⟩, -, -⟩ := hA.five
  go_wp2_with fail
  refine (put_6 htm _).mono ?_
  rintro e w5 ⟨rfl, hb⟩
  have hl := bt hl hb
  have hA := hA.later hb
  clear c0 c1 c2 c3 c4 hb
  obtain ⟨⟨c0, c1, c2, c3, c4⟩, -, -⟩ := hA.five
  go_wp2_with fail
  refine (put_4 hti _).mono ?_
  rintro e w6 ⟨rfl, hb⟩
  have hl := bt hl hb
  clear c0 c1 c2 c3 c4 hb hA
  go_wp2
  go_ret2
  exact ⟨rfl, hl⟩

theorem enc_n {o fm fi tm ti : Int} (h : mayA o fm fi tm ti = false) (w : World) :
    Calls Tryz.prog 24 #[.agg #[.int .i64 o, .int .i64 fm, .int .i64 fi, .int .i64 tm, .int .i64 ti]] w fun e w' => e = .returned (.tuple #[.string ⟨#[]⟩, .int .i64 40]) ∧ Below w.heap.size w w' := by
  have hl := bel1 w (.cells #[.int .i64 o, .int .i64 fm, .int .i64 fi, .int .i64 tm, .int .i64 ti] 25)
  go_enter Tryz.func24, Tryz.ntmps24
  go_wp2_with fail
  refine (amay_f h _).mono ?_
  rintro e w1 ⟨rfl, hb⟩
  have hl := bt hl hb
  go_wp2
  go_ret2
  exact ⟨rfl, hl⟩

end Go.Proofs.YtkpdmgoldngdaaaGreatDoor.Eth.Arp

namespace Go.Proofs.YtkpdmgoldngdaaaGreatDoor.Eth.Arp
open Go.RowKit
set_option maxRecDepth 100000

theorem encA_list (o fm fi tm ti : Int) (m : ByteArray) : (encA o fm fi tm ti ++ m).data.toList = [0, 1, 8, 0, 6, 4] ++ (txtL o 2 ++ (txtL fm 6 ++ (txtL fi 4 ++ (txtL tm 6 ++ (txtL ti 4 ++ m.data.toList))))) := by
  unfold encA
  simp only [app_toList, txt_toList, List.append_assoc]
theorem enc_more {o fm fi tm ti : Int} (h : mayA o fm fi tm ti = true) (m : ByteArray) :
    aO (encA o fm fi tm ti ++ m) = o ∧ aFm (encA o fm fi tm ti ++ m) = fm ∧ aFi (encA o fm fi tm ti ++ m) = fi ∧ aTm (encA o fm fi tm ti ++ m) = tm ∧ aTi (encA o fm fi tm ti ++ m) = ti ∧ preB (encA o fm fi tm ti ++ m) = true ∧ (encA o fm fi tm ti ++ m).size = 28 + m.size := by
  obtain ⟨ho, hfm, -, hfi, htm, hti⟩ := mayA_parts h
  have L := encA_list o fm fi tm ti m
  refine ⟨?_, ?_, ?_, ?_, ?_, ?_, ?_⟩
  · exact num_at _ _ _ o 2 6 8 L rfl rfl (by omega) (by omega)
  · exact num_at _ ([0, 1, 8, 0, 6, 4] ++ txtL o 2) _ fm 6 8 14 (by rw [L]; simp only [List.append_assoc]; rfl) (by simp only [List.length_append, txtL_len]; rfl) rfl hfm.1 (by have := hfm.2; omega)
  · exact num_at _ ([0, 1, 8, 0, 6, 4] ++ txtL o 2 ++ txtL fm 6) _ fi 4 14 18 (by rw [L]; simp only [List.append_assoc]; rfl) (by simp only [List.length_append, txtL_len]; rfl) rfl hfi.1 (by have := hfi.2; omega)
  · exact num_at _ ([0, 1, 8, 0, 6, 4] ++ txtL o 2 ++ txtL fm 6 ++ txtL fi 4) _ tm 6 18 24 (by rw [L]; simp only [List.append_assoc]; rfl) (by simp only [List.length_append, txtL_len]; rfl) rfl htm.1 (by have := htm.2; omega)
  · exact num_at _ ([0, 1, 8, 0, 6, 4] ++ txtL o 2 ++ txtL fm 6 ++ txtL fi 4 ++ txtL tm 6) _ ti 4 24 28 (by rw [L]; simp only [List.append_assoc]; rfl) (by simp only [List.length_append, txtL_len]; rfl) rfl hti.1 (by have := hti.2; omega)
  · have e : (encA o fm fi tm ti ++ m).extract 0 6 = hdS := by
      apply ba_toList
      rw [ext_toList, L]
      rfl
    unfold preB
    rw [e]
    exact beq_self_eq_true _
  · rw [ByteArray.size_append, encA_size]
theorem mayS_more {o fm fi tm ti : Int} (h : mayA o fm fi tm ti = true) (m : ByteArray) : mayS (encA o fm fi tm ti ++ m) = true := by
  obtain ⟨e1, e2, e3, e4, e5, -, -⟩ := enc_more h m
  unfold mayS
  rw [e1, e2, e3, e4, e5, h]
theorem decA_more_t {o fm fi tm ti : Int} (h : mayA o fm fi tm ti = true) (m : ByteArray) (hm : m.size ≤ 18) : decA (encA o fm fi tm ti ++ m) = true := by
  obtain ⟨-, -, -, -, -, e6, e7⟩ := enc_more h m
  unfold decA
  rw [mayS_more h m, e6, e7, decide_eq_true ⟨by omega, by omega⟩]
  rfl
end Go.Proofs.YtkpdmgoldngdaaaGreatDoor.Eth.Arp
