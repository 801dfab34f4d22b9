/- What is left of parts behind an acknowledgement. -/
import Derived.Test.YtkclookpdngkoaaDQe
namespace Go.Proofs.Ytkclookpdngkoaa.S
open Go.RowKit Go.Maps Go.Lib
set_option maxRecDepth 100000
set_option linter.unusedVariables false
set_option linter.unusedSimpArgs false


def bhL (ps : List Pt) (d : Nat) : List Pt := (ps.filter fun e => decide (d < e.2)).map fun e => (e.1 - d, e.2 - d)
theorem bhL_snoc (ps : List Pt) (d : Nat) (e : Pt) : bhL (ps ++ [e]) d = bhL ps d ++ (if d < e.2 then [(e.1 - d, e.2 - d)] else []) := by
  unfold bhL
  rw [List.filter_append, List.map_append]
  by_cases h : d < e.2 <;> simp [h]
theorem bhL_len (ps : List Pt) (d : Nat) : (bhL ps d).length ≤ ps.length := by unfold bhL; rw [List.length_map]; exact List.length_filter_le _ _
/-- The row while parts are let go in their own place. -/
def BI (W : World) (g cap : Nat) (ps : List Pt) (d i : Nat) : Prop := ∃ cur, W.heap[g]? = some (.cells cur 58 (0, 0)) ∧ cur.size = cap * 2 ∧ cur.toList.take ((bhL (ps.take i) d).length * 2) = (bhL (ps.take i) d).flatMap enP ∧ (cur.toList.drop (i * 2)).take ((ps.length - i) * 2) = (ps.drop i).flatMap enP
theorem BI.later {W W' : World} {g cap : Nat} {ps : List Pt} {d i : Nat} (h : BI W g cap ps d i) (hb : Below W.heap.size W W') : BI W' g cap ps d i := by
  obtain ⟨cur, h1, h2⟩ := h
  exact ⟨cur, (hb.block g (Array.getElem?_eq_some_iff.1 h1).1).trans h1, h2⟩
theorem BI.cell {W : World} {g cap : Nat} {ps : List Pt} {d i : Nat} {e : Pt} (h : BI W g cap ps d i) (he : ps[i]? = some e) : W.cell? ⟨g, i * 2, none⟩ = some (.int .i64 (e.1 : Int)) ∧ W.cell? ⟨g, i * 2 + 1, none⟩ = some (.int .i64 (e.2 : Int)) := by
  obtain ⟨cur, h1, h2, h3, h4⟩ := h
  have hlt := (List.getElem?_eq_some_iff.1 he).1
  have hd : (ps.drop i)[0]? = some e := by rw [List.getElem?_drop, Nat.add_zero]; exact he
  obtain ⟨a, b⟩ := flat_at _ 0 e hd
  rw [← h4] at a b
  rw [List.getElem?_take_of_lt (by omega), List.getElem?_drop] at a b
  simp only [Nat.zero_mul, Nat.add_zero, Nat.zero_add] at a b
  simp only [World.cell?, h1]
  exact ⟨by simpa using a, by simpa using b⟩
theorem take_snoc {ps : List Pt} {i : Nat} {e : Pt} (he : ps[i]? = some e) : ps.take (i + 1) = ps.take i ++ [e] := by
  rw [List.take_add_one, he]
  rfl
theorem drop_step {ps : List Pt} {i : Nat} {e : Pt} (he : ps[i]? = some e) : ps.drop i = e :: ps.drop (i + 1) := by
  obtain ⟨h, rfl⟩ := List.getElem?_eq_some_iff.1 he
  exact List.drop_eq_getElem_cons h
theorem BI.skip {W : World} {g cap : Nat} {ps : List Pt} {d i : Nat} {e : Pt} (h : BI W g cap ps d i) (he : ps[i]? = some e) (hc : ¬ d < e.2) : BI W g cap ps d (i + 1) := by
  obtain ⟨cur, h1, h2, h3, h4⟩ := h
  have hlt := (List.getElem?_eq_some_iff.1 he).1
  refine ⟨cur, h1, h2, ?_, ?_⟩
  · rw [take_snoc he, bhL_snoc, if_neg hc, List.append_nil]
    exact h3
  · have e1 : cur.toList.drop ((i + 1) * 2) = (cur.toList.drop (i * 2)).drop 2 := by rw [List.drop_drop]; congr 1; omega
    rw [e1, show (ps.length - (i + 1)) * 2 = (ps.length - i) * 2 - 2 by omega, ← List.drop_take, h4, drop_step he]
    rfl
theorem BI.put {W : World} {g cap : Nat} {ps : List Pt} {d i : Nat} {e : Pt} (h : BI W g cap ps d i) (he : ps[i]? = some e) (hc : d < e.2) (hn : ps.length ≤ cap) {i0 : TypeInfo} (hi : Try.prog.info? 58 = some i0) (hz1 : i0.size = 2) (b c : Nat) (hb : ∀ j u, [Value.int .i64 ((e.1 - d : Nat) : Int), Value.int .i64 ((e.2 - d : Nat) : Int)][j]? = some u → W.cell? ((⟨b, 0, none⟩ : Addr).add j) = some u) :
    ∃ w', (Builtin.append_ #[51, 51] 51 #[.slice (some ⟨g, 0, none⟩) (bhL (ps.take i) d).length cap, .slice (some ⟨b, 0, none⟩) 1 c]).run Try.prog W = .ok (.slice (some ⟨g, 0, none⟩) (bhL (ps.take (i + 1)) d).length cap) w' ∧ BI w' g cap ps d (i + 1) ∧ Turn (fun k => k = g) W w' := by
  obtain ⟨cur, h1, h2, h3, h4⟩ := h
  have hlt := (List.getElem?_eq_some_iff.1 he).1
  have hr : (bhL (ps.take i) d).length ≤ i := Nat.le_trans (bhL_len _ _) (by rw [List.length_take]; omega)
  have hcs : cur.toList.length = cap * 2 := by rw [Array.length_toList, h2]
  have hrun := run_append_room (P := Try.prog) W 51 51 58 i0 Try.underlying51 hi g (bhL (ps.take i) d).length cap cur h1 ⟨b, 0, none⟩ 1 c [Value.int .i64 ((e.1 - d : Nat) : Int), Value.int .i64 ((e.2 - d : Nat) : Int)] (by rw [hz1]; rfl) hb (by intro u hu; simp at hu; rcases hu with rfl | rfl <;> rfl) (by omega) (by rw [hz1, h2]; simp; omega)
  rw [hz1] at hrun
  have hbs : bhL (ps.take (i + 1)) d = bhL (ps.take i) d ++ [(e.1 - d, e.2 - d)] := by rw [take_snoc he, bhL_snoc, if_pos hc]
  have hbl : (bhL (ps.take (i + 1)) d).length = (bhL (ps.take i) d).length + 1 := by rw [hbs, List.length_append]; rfl
  refine ⟨_, by rw [hbl]; exact hrun, ⟨_, setRow_heap W g cur _ 58 (0, 0) h1, ?_, ?_, ?_⟩, turn_setRow _ _ _⟩
  · simp [hcs]; omega
  · rw [hbl, hbs, List.flatMap_append, ← h3]
    have e1 : (cur.toList.take ((bhL (ps.take i) d).length * 2)).length = (bhL (ps.take i) d).length * 2 := by rw [List.length_take]; omega
    show List.take _ (cur.toList.take ((bhL (ps.take i) d).length * 2) ++ _ ++ _) = _
    rw [List.take_append_of_le_length (by rw [List.length_append, e1]; simp; omega), List.take_of_length_le (by rw [List.length_append, e1]; simp; omega)]
    simp [enP]
  · show List.take _ (List.drop _ (cur.toList.take ((bhL (ps.take i) d).length * 2) ++ _ ++ _)) = _
    have e1 : (cur.toList.take ((bhL (ps.take i) d).length * 2)).length = (bhL (ps.take i) d).length * 2 := by rw [List.length_take]; omega
    rw [List.drop_append, List.drop_eq_nil_of_le (by rw [List.length_append, e1]; simp; omega), List.nil_append, List.length_append, e1, List.drop_drop]
    have e2 : (bhL (ps.take i) d).length * 2 + [Value.int .i64 ((e.1 - d : Nat) : Int), Value.int .i64 ((e.2 - d : Nat) : Int)].length + ((i + 1) * 2 - ((bhL (ps.take i) d).length * 2 + [Value.int .i64 ((e.1 - d : Nat) : Int), Value.int .i64 ((e.2 - d : Nat) : Int)].length)) = i * 2 + 2 := by simp; omega
    rw [e2, ← List.drop_drop, show (ps.length - (i + 1)) * 2 = (ps.length - i) * 2 - 2 by omega, ← List.drop_take, h4, drop_step he]
    rfl
set_option maxHeartbeats 2000000 in
theorem behind_nil (d : Nat) (w : World) : Calls Try.prog 28 #[.slice none 0 0, .int .i64 (d : Int)] w fun e w' => e = .returned (.slice none 0 0) ∧ w' = w := by
  go_enter Try.func28, Try.ntmps28
  go_wp2
  go_loopw [5, 12] (fun s5 s12 W => s5 = .slice none 0 0 ∧ s12 = .int .i64 0 ∧ W = w) (fun _ _ _ => 0)
  case atStart => exact ⟨rfl, rfl, rfl⟩
  case round =>
    obtain ⟨rfl, rfl, rfl⟩ := hrel
    go_wp2
    go_ret
    exact ⟨rfl, rfl⟩
set_option maxHeartbeats 2000000 in
theorem behind_some {w : World} {R : Bk} {g cap : Nat} {ps : List Pt} (d : Nat) (h : PO w R (.slice (some ⟨g, 0, none⟩) ps.length cap) ps) (hps : ∀ e ∈ ps, e.1 ≤ 65536 ∧ e.2 ≤ 65536) (hl : ps.length ≤ 65536) (hd : d ≤ 65536) :
    Calls Try.prog 28 #[.slice (some ⟨g, 0, none⟩) ps.length cap, .int .i64 (d : Int)] w fun e w' => e = .returned (.slice (some ⟨g, 0, none⟩) (bhL ps d).length cap) ∧ PO w' R (.slice (some ⟨g, 0, none⟩) (bhL ps d).length cap) (bhL ps d) ∧ Turn (fun k => k = g) w w' := by
  obtain ⟨g', cap', cur, hv, hg, hb, h1, h2, h3, h4⟩ : ∃ g' cap' cur, (Value.slice (some ⟨g, 0, none⟩) ps.length cap) = .slice (some ⟨g', 0, none⟩) ps.length cap' ∧ R g' ∧ w.heap[g']? = some (.cells cur 58 (0, 0)) ∧ ps.length ≤ cap' ∧ cap' ≤ maxLen ∧ cur.size = cap' * 2 ∧ cur.toList.take (ps.length * 2) = ps.flatMap enP := by
    rcases h.2 with ⟨e, -⟩ | h'
    · cases e
    · exact h'
  cases hv
  have hmax : cap ≤ 9223372036854775807 := h2
  have hgw : g < w.heap.size := (Array.getElem?_eq_some_iff.1 hb).1
  have hst : BI w g cap ps d 0 := ⟨cur, hb, h3, by simp [bhL], by simpa using h4⟩
  have hncap : (ps.length : Int) ≤ (cap : Int) := by omega
  have h0c : (0 : Int) ≤ (cap : Int) := by omega
  clear h h4 h3 hb cur
  obtain ⟨i0, hi, hz0, hz1, hz2⟩ := info_parts infoP
  go_enter Try.func28, Try.ntmps28
  go_wp2
  go_loopw [5, 12] (fun s5 s12 W => ∃ i : Nat, i ≤ ps.length ∧ s12 = .int .i64 (i : Int) ∧ s5 = .slice (some ⟨g, 0, none⟩) (bhL (ps.take i) d).length cap ∧ Hid (BI W g cap ps d i) ∧ Hid (Turn (fun k => k = g) w W)) (fun _ s12 _ => ps.length - (intOf s12).toNat)
  case atStart => exact ⟨0, Nat.zero_le _, rfl, by simp [bhL], hst, Turn.refl _⟩
  case round =>
    obtain ⟨i, hin, rfl, rfl, HI, HT⟩ := hrel
    by_cases hlt : i < ps.length
    · obtain ⟨e, he⟩ : ∃ e, ps[i]? = some e := ⟨_, List.getElem?_eq_getElem hlt⟩
      have hlt' : (i : Int) < (ps.length : Int) := by omega
      obtain ⟨e1, e2⟩ := HI.out.cell he
      obtain ⟨he1, he2⟩ := hps e (List.mem_of_getElem? he)
      have hgr : g < wr.heap.size := Nat.lt_of_lt_of_le hgw HT.out.size
      have HE : Hid (ps[i]? = some e) := he
      clear he
      by_cases hc : d < e.2
      · have hcI : (d : Int) < (e.2 : Int) := by omega
        have hmx : max ((e.1 : Int) - (d : Int)) 0 = ((e.1 - d : Nat) : Int) := by omega
        have hsb : (e.2 : Int) - (d : Int) = ((e.2 - d : Nat) : Int) := by omega
        have hB := (HI.out.later (bt (bel1 wr (.cells #[.int .i64 (e.1 : Int), .int .i64 (e.2 : Int)] 58)) (bel1 _ (.cells #[.int .i64 ((e.1 - d : Nat) : Int), .int .i64 ((e.2 - d : Nat) : Int)] 58)))).put HE.out hc h1 hi hz1 (wr.heap.size + 1) 1 (by
          intro j u hu
          have hA2 := (At.box2 wr (.cells #[.int .i64 (e.1 : Int), .int .i64 (e.2 : Int)] 58) #[.int .i64 ((e.1 - d : Nat) : Int), .int .i64 ((e.2 - d : Nat) : Int)] 58).2 j u (by simpa using hu)
          rw [Addr.add_mid, Nat.zero_add]
          exact hA2.1)
        obtain ⟨w6, hrun, hB6, ht6⟩ := hB
        rw [← hmx, ← hsb] at hrun
        have HT6 : Hid (Turn (fun k => k = g) w w6) := (HT.out.later (bt (bel1 wr (.cells #[.int .i64 (e.1 : Int), .int .i64 (e.2 : Int)] 58)) (bel1 _ (.cells #[.int .i64 ((e.1 - d : Nat) : Int), .int .i64 ((e.2 - d : Nat) : Int)] 58)))).trans ht6
        have HB6 : Hid (BI w6 g cap ps d (i + 1)) := hB6
        clear hB6 ht6 hmx hsb
        have hd0 : (0 : Int) ≤ (d : Int) := by omega
        have he1' : (e.1 : Int) ≤ 65536 := by omega
        have he2' : (e.2 : Int) ≤ 65536 := by omega
        have hdd : (d : Int) ≤ 65536 := by omega
        go_wp2_with (first
          | (at_builtin; refine wpList_append_eq rfl _ _ rfl rfl rfl hrun ?_)
          | go_in)
        go_roundw
        case rel => exact ⟨i + 1, by omega, by first | rfl | simp, rfl, HB6, HT6⟩
        case measure => simp [intOf]; omega
      · have hcI : ¬ (d : Int) < (e.2 : Int) := by omega
        go_wp2
        go_roundw
        case rel => exact ⟨i + 1, by omega, by first | rfl | simp, by rw [take_snoc HE.out, bhL_snoc, if_neg hc, List.append_nil], (HI.out.skip HE.out hc).later (bel1 _ _), HT.out.later (bel1 _ _)⟩
        case measure => simp [intOf]; omega
    · obtain rfl : i = ps.length := by omega
      have hlt' : ¬ (ps.length : Int) < (ps.length : Int) := by omega
      go_wp2
      go_ret
      obtain ⟨cur, k1, k2, k3, k4⟩ := HI.out
      rw [List.take_of_length_le (Nat.le_refl _)] at k3
      have hbl := bhL_len ps d
      exact ⟨rfl, ⟨flat_len _, Or.inr ⟨g, cap, cur, rfl, hg, k1, by omega, h2, k2, k3⟩⟩, HT.out⟩
end Go.Proofs.Ytkclookpdngkoaa.S
