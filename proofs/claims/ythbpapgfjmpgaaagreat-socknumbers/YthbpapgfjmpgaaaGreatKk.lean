/- FDs, Waiting, works. -/
import Derived.Test.YthbpapgfjmpgaaaGreatKj
namespace Go.Proofs.YthbpapgfjmpgaaaGreat
open Go.RowKit Go.Maps
set_option maxRecDepth 100000
set_option linter.unusedVariables false
set_option linter.unusedSimpArgs false


def cnt (s : Nat → Int) : Nat → Nat
  | 0 => 0
  | n + 1 => cnt s n + (if s n = 0 then 0 else 1)
theorem cnt_le (s : Nat → Int) : ∀ n, cnt s n ≤ n
  | 0 => Nat.le_refl _
  | n + 1 => by unfold cnt; have := cnt_le s n; split <;> omega
set_option maxHeartbeats 1000000 in
theorem fds_any {w : World} {B T : Nat} {s : Nat → Int} {v : Value} (h : BX w B T s v) :
    Calls Tryz.prog 9 #[PB B] w fun e w' => ∃ u zs, e = .returned u ∧ Ints w' w.heap.size u zs ∧ zs.length = cnt s 64 ∧ Below w.heap.size w w' := by
  have hr := h.range
  have hi := info51 s
  have hix := fun i (hi : i < 64) W => run_ix s i hi W
  have HC : Hid (∀ k, cnt s (k + 1) = cnt s k + (if s k = 0 then 0 else 1)) := fun k => rfl
  have HL : Hid (∀ k, cnt s k ≤ k) := cnt_le s
  have h00 : cnt s 0 = 0 := rfl
  generalize hcs : cellsS s = cs at *
  have hir : (Tryz.prog.info? 51).map (·.size) = some cs.length := hi
  have HIX : Hid _ := hix
  obtain ⟨N, hN⟩ : ∃ N, N = cnt s 64 := ⟨_, rfl⟩
  rw [← hN]
  have HN : Hid (N = cnt s 64) := hN
  clear hcs hi h hix hN
  go_enter Tryz.func9, Tryz.ntmps9
  go_wp2_with (first | (refine wpList_load_mid rfl 51 _ rfl B 1 (by first | rfl | simp) cs _ hr Tryz.underlying51 rfl hir ?_) | go_in)
  clear hr hir
  go_loopw [3, 10] (fun u i wr => ∃ (k : Nat) (zs : List Int), k ≤ 64 ∧ i = .int .i64 (k : Int) ∧ Ints wr w.heap.size u zs ∧ zs.length = cnt s k ∧ Below w.heap.size w wr) (fun _ i _ => 65 - (intOf i).toNat)
  case atStart => exact ⟨0, [], Nat.zero_le _, rfl, Ints.nil _ _, h00.symm, Below.refl _ _⟩
  case round =>
    obtain ⟨k, zs, hk, rfl, hI, hz, hb⟩ := hrel
    have HZ : Hid (zs.length = cnt s k) := hz
    clear hz h00
    by_cases he : k = 64
    · subst he
      go_wp2
      go_ret
      exact ⟨u3, zs, rfl, hI, HZ.out.trans HN.out.symm, hb⟩
    · have hk64 : (k : Int) < 64 := by omega
      have hk0 : (0 : Int) ≤ (k : Int) := by omega
      have hixk := HIX.out k (by omega) wr
      have hc := HC.out k
      have hlen : zs.length < 1000000 := by have := HZ.out; have := HL.out k; omega
      by_cases h0 : s k = 0
      · rw [h0, sV_zero] at hixk
        rw [if_pos h0] at hc
        have HC1 : Hid _ := hc
        clear hc h0
        go_wp2_with (first | (refine wpList_index_eq rfl _ _ rfl (by first | rfl | simp) (by first | rfl | simp) hixk ?_) | go_in)
        go_roundw
        case rel => exact ⟨k + 1, zs, by omega, by go_num, hI, by rw [HC1.out]; exact HZ.out, hb⟩
        case measure => simp [intOf]; omega
      · rw [sV_one h0] at hixk
        rw [if_neg h0] at hc
        have HC1 : Hid _ := hc
        clear hc h0
        generalize s k = p at *
        go_wp2_with (first
          | (refine wpList_index_eq rfl _ _ rfl (by first | rfl | simp) (by first | rfl | simp) hixk ?_)
          | (at_builtin; refine wpList_append1 rfl _ _ rfl w.heap.size u3 zs (k : Int) rfl hI rfl hb.size hlen ?_; intro v2 w2 hI2 hB2 hT2)
          | go_in)
        go_roundw
        case rel => exact ⟨k + 1, zs ++ [(k : Int)], by omega, by go_num, hI2, by rw [HC1.out, List.length_append, HZ.out]; rfl, hb.trans hB2⟩
        case measure => simp [intOf]; omega
theorem waiting_no {w : World} {B T L M : Nat} {s : Nat → Int} {v : Value} {l : List Vn} (h : AK w B T L M s v l) :
    Calls Tryz.prog 10 #[PB B] w fun e w' => e = .returned (.slice none 0 0) ∧ w' = w := by
  obtain ⟨va, vc, hv⟩ : ∃ a c, v = .slice a 0 c := by
    rcases h.wr.2 with ⟨e, -⟩ | ⟨g, cap, cur, e, -⟩
    · exact ⟨none, 0, e⟩
    · exact ⟨some ⟨g, 0, none⟩, cap, e⟩
  subst hv
  have c := h.sk.b.cv
  clear h
  go_enter Tryz.func10, Tryz.ntmps10
  go_wp2
  refine wp_loop_rounds 1 ?_
  rw [rounds_succ]
  go_wp2
  go_ret
  exact ⟨rfl, rfl⟩
set_option maxHeartbeats 1000000 in
theorem waiting_one {w : World} {B T L M g cap W : Nat} {s : Nat → Int} {l : List Vn} {tag kind fd port : Int} (h : SK w B T L M s (.slice (some ⟨g, 0, none⟩) 1 cap) l) (hg : WR w (.slice (some ⟨g, 0, none⟩) 1 cap) [PB W]) (hW : At w W (waitV tag kind fd port)) :
    Calls Tryz.prog 10 #[PB B] w fun e w' => ∃ u, e = .returned u ∧ Ints w' w.heap.size u [tag] ∧ Below w.heap.size w w' := by
  have c := h.b.cv
  have cg : w.cell? ⟨g, 0, none⟩ = some (PB W) := hg.cells (g := g) rfl 0 _ rfl
  have cw : w.cell? ⟨W, 0, none⟩ = some (.int .i64 tag) := (hW.2 0 _ rfl).1
  have hI := Ints.nil w w.heap.size
  have B9 := h.b
  go_enter Tryz.func10, Tryz.ntmps10
  go_wp2
  refine wp_loop_rounds 2 ?_
  rw [rounds_succ]
  go_wp2_with (first
    | (at_builtin; refine wpList_append1 rfl _ _ rfl w.heap.size (.slice none 0 0) [] tag rfl hI rfl (Nat.le_refl _) (by decide) ?_; intro v2 w2 hI2 hB2 hT2)
    | go_in)
  rw [rounds_succ]
  go_wp2
  go_ret
  exact ⟨v2, rfl, hI2, hB2⟩
end Go.Proofs.YthbpapgfjmpgaaaGreat
