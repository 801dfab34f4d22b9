/- The insertion sort by the order of a wheel; SortFunc of at most twelve. -/
import Derived.Test.YtbdloehdhdifpaaWd
import Derived.Sort.WalkA
import Derived.Deep.LoopGhost
import Derived.Shelf.SlSortCmp.NoneTotal
namespace Go.Proofs.Ytbdloehdhdifpaa
open Go.RowKit Go.Maps Go.Lib Go.Sort Go.Proofs
set_option maxRecDepth 100000
set_option linter.unusedVariables false
set_option linter.unusedSimpArgs false

theorem insInner_no {lt : Nm → Nm → Bool} {a j : Nat} {d : Array Nm} (h : j ≤ a ∨ lt d[j]! d[j - 1]! = false) : insInner lt a j d = d := by
  cases j with
  | zero => rfl
  | succ j =>
    unfold insInner
    rw [if_neg]
    rcases h with h | h
    · simp; omega
    · rw [Nat.add_sub_cancel] at h
      simp [h]
theorem insInner_yes {lt : Nm → Nm → Bool} {a j : Nat} {d : Array Nm} (h : a < j + 1) (hl : lt d[j + 1]! d[j]! = true) : insInner lt a (j + 1) d = insInner lt a j (swp d (j + 1) j) := by
  conv => lhs; unfold insInner
  rw [if_pos]
  simp [hl]; omega
theorem insOuter_no {lt : Nm → Nm → Bool} {a b i : Nat} {d : Array Nm} (h : ¬ i < b) : insOuter lt a b i d = d := by
  unfold insOuter
  rw [if_neg h]
theorem insOuter_yes {lt : Nm → Nm → Bool} {a b i : Nat} {d : Array Nm} (h : i < b) : insOuter lt a b i d = insOuter lt a b (i + 1) (insInner lt a i d) := by
  conv => lhs; unfold insOuter
  rw [if_pos h]
theorem swp_size (d : Array Nm) (i j : Nat) : (swp d i j).size = d.size := by simp [swp]
set_option maxHeartbeats 4000000 in
theorem ins_any {w0 : World} {B M blk off : Nat} {now : Int} {L : List Tm} {d0 : Array Nm} (C : Sx w0 B M blk off now L d0) (cap : Nat) (d : Array Nm) (w : World) (S : SW eN w0 blk off d w) (n : Nat) (hs : Hid (d.size = n ∧ d0.size = n)) (a b : Nat) (hab : a ≤ b) (hb : b ≤ n) (hz : n < 1000000) :
    Calls Try.prog 33 #[.slice (some ⟨blk, off, none⟩) n cap, .int .i64 (a : Int), .int .i64 (b : Int), .func (.func 28) #[.pointer (some ⟨B, 0, none⟩)] #[]] w fun e w' => e = .returned (.tuple #[]) ∧ SW eN w0 blk off (insertionSort (ltN L) d a b) w' := by
  have mixed : Try.prog.follows .mixedOrders = true := by kernel_rfl
  have HC : Hid (Sx w0 B M blk off now L d0) := C
  have HS : Hid (SW eN w0 blk off d w) := S
  clear C S
  go_enter Try.func33, Try.ntmps33
  go_wp2
  go_loopw [8] (fun vi wr => ∃ (i : Nat) (dk : Array Nm), vi = .int .i64 (i : Int) ∧ a < i ∧ i ≤ b + 1 ∧ dk.size = n ∧ Hid (SW eN w0 blk off dk wr) ∧ Hid (insOuter (ltN L) a b i dk = insertionSort (ltN L) d a b)) (fun vi _ => b + 1 - (intOf vi).toNat)
  case atStart => exact ⟨a + 1, d, by simp, by omega, by omega, hs.out.1, HS, rfl⟩
  case round =>
    clear HS
    obtain ⟨i, dk, rfl, hai, hib, hsk, S1, HO⟩ := hrel
    by_cases hlt : i < b
    · have hltz : (i : Int) < (b : Int) := by omega
      go_wp2
      go_loopw [9] (fun vj wr2 => ∃ (j : Nat) (dj : Array Nm), vj = .int .i64 (j : Int) ∧ j ≤ i ∧ dj.size = n ∧ Hid (SW eN w0 blk off dj wr2) ∧ Hid (insInner (ltN L) a j dj = insInner (ltN L) a i dk)) (fun vj _ => (intOf vj).toNat)
      case atStart => exact ⟨i, dk, rfl, Nat.le_refl _, hsk, S1, rfl⟩
      case round =>
        clear S1
        obtain ⟨j, dj, rfl, hji, hsj, SJ, HI⟩ := hrel
        have hout : (j ≤ a ∨ ltN L dj[j]! dj[j - 1]! = false) → Hid (insOuter (ltN L) a b (i + 1) dj = insertionSort (ltN L) d a b) := fun h => by
          show _ = _
          rw [← HO.out, insOuter_yes hlt, ← HI.out, insInner_no h]
        have OUT : Hid _ := hout
        clear hout
        by_cases hja : a < j
        · obtain ⟨jp, rfl⟩ : ∃ q, j = q + 1 := ⟨j - 1, by omega⟩
          have hja1 : (a : Int) < (jp : Int) + 1 := by omega
          have hja2 : decide ((jp : Int) + 1 > (a : Int)) = true := decide_eq_true (by omega)
          have eJ : ((jp + 1 : Nat) : Int) = (jp : Int) + 1 := by omega
          obtain ⟨x, y, r, cx, cy, hc, hd⟩ := HC.out.test SJ.out (by have := hs.out.2; omega) (jp + 1) jp (by omega) (by omega)
          obtain ⟨k1, hk1⟩ : ∃ q, q = jp + 1 := ⟨_, rfl⟩
          obtain ⟨k2, hk2⟩ : ∃ q, q = jp := ⟨_, rfl⟩
          rw [← hk1] at cx
          rw [← hk2] at cy
          have ea1 : ((jp : Int) + 1).toNat = k1 := by omega
          have pa1 : (0 : Int) ≤ (jp : Int) + 1 := by omega
          have ba1 : (jp : Int) + 1 < (n : Int) := by omega
          have ra1 : IntKind.i64.wrap ((jp : Int) + 1) = (jp : Int) + 1 := by rw [IntKind.wrap_i64]; omega
          have ea2 : ((jp : Int)).toNat = k2 := by omega
          have pa2 : (0 : Int) ≤ (jp : Int) := by omega
          have ba2 : (jp : Int) < (n : Int) := by omega
          have ra2 : IntKind.i64.wrap ((jp : Int)) = (jp : Int) := by rw [IntKind.wrap_i64]; omega
          cases hlv : ltN L dj[jp + 1]! dj[jp]! with
          | true =>
            rw [hlv] at hd
            have hr0 : r < 0 := of_decide_eq_true hd
            clear hk1 hk2
            go_wp2_with fail
            go_quiet_grown ((go_at_call 28; refine Calls.grown_of (hc _ _)))
            have S2 : Hid (SW eN w0 blk off dj (grow (wr.drewN nq) osq)) := SJ.out.grown nq osq
            clear cx cy hc SJ
            generalize grow (wr.drewN nq) osq = w2 at S2 ⊢
            clear nq osq ea1 ea2
            obtain ⟨x, y, u, c1, c2, f1, f2, c3, S3'⟩ := HC.out.swap S2.out (by have := hs.out.2; omega) (jp + 1) jp (by omega) (by omega)
            obtain ⟨k1, hk1⟩ : ∃ q, q = jp + 1 := ⟨_, rfl⟩
            obtain ⟨k2, hk2⟩ : ∃ q, q = jp := ⟨_, rfl⟩
            have S4 : Hid (SW eN w0 blk off (swp dj (jp + 1) jp) ((w2.setCell ⟨blk, off + k1, none⟩ (.int .i64 y)).setCell ⟨blk, off + k2, none⟩ (.int .i64 x)).drew) := by rw [hk1, hk2]; exact S3'
            rw [← hk1] at c1 f1 c3
            rw [← hk2] at c2 f2 c3
            clear S3' S2
            have ea1 : ((jp : Int) + 1).toNat = k1 := by omega
            have pa1 : (0 : Int) ≤ (jp : Int) + 1 := by omega
            have ba1 : (jp : Int) + 1 < (n : Int) := by omega
            have ra1 : IntKind.i64.wrap ((jp : Int) + 1) = (jp : Int) + 1 := by rw [IntKind.wrap_i64]; omega
            have ea2 : ((jp : Int)).toNat = k2 := by omega
            have pa2 : (0 : Int) ≤ (jp : Int) := by omega
            have ba2 : (jp : Int) < (n : Int) := by omega
            have ra2 : IntKind.i64.wrap ((jp : Int)) = (jp : Int) := by rw [IntKind.wrap_i64]; omega
            clear hk1 hk2
            go_wp2_with fail
            go_big_region_o
            clear c1 c2 c3 f1 f2 ea1 ea2
            generalize ((w2.setCell ⟨blk, off + k1, none⟩ (.int .i64 y)).setCell ⟨blk, off + k2, none⟩ (.int .i64 x)).drew = w3 at S4 ⊢
            go_wp2
            go_roundw
            case rel => exact ⟨jp, swp dj (jp + 1) jp, by first | rfl | simp, by omega, by rw [swp_size]; exact hsj, S4, (show Hid _ from by rw [← HI.out, insInner_yes hja hlv]; exact rfl)⟩
            case measure => (simp [intOf]; try omega)
          | false =>
            rw [hlv] at hd
            have hr0 : ¬ r < 0 := of_decide_eq_false hd
            clear hk1 hk2
            go_wp2_with fail
            go_quiet_grown ((go_at_call 28; refine Calls.grown_of (hc _ _)))
            have S2 : Hid (SW eN w0 blk off dj (grow (wr.drewN nq) osq)) := SJ.out.grown nq osq
            clear cx cy hc SJ
            generalize grow (wr.drewN nq) osq = w2 at S2 ⊢
            clear nq osq ea1 ea2
            go_wp2
            go_roundw
            case rel => exact ⟨i + 1, dj, by simp, by omega, by omega, hsj, S2, OUT.out (Or.inr hlv)⟩
            case measure => (simp [intOf]; try omega)
        · have hjaz : decide ((j : Int) > (a : Int)) = false := decide_eq_false (by omega)
          have hjaz' : ¬ (a : Int) < (j : Int) := by omega
          go_wp2_with fail
          go_big_region_o
          have S2 : Hid (SW eN w0 blk off dj wr.drew) := SJ.out.drew
          clear SJ
          generalize wr.drew = w2 at S2 ⊢
          go_wp2
          go_roundw
          case rel => exact ⟨i + 1, dj, by simp, by omega, by omega, hsj, S2, OUT.out (Or.inl (by omega))⟩
          case measure => (simp [intOf]; try omega)
    · have hltz : ¬ (i : Int) < (b : Int) := by omega
      go_wp2
      go_end0
      exact ⟨rfl, by rw [← HO.out, insOuter_no hlt]; exact S1.out⟩
end Go.Proofs.Ytbdloehdhdifpaa
