/- slices.Clone of bytes, maps.Clone, Fork. -/
import Derived.Test.YtiglaalppaljbaaVf
import Derived.Shelf.SlMaps.Clone
namespace Go.Proofs.Ytiglaalppaljbaa
open Go.RowKit Go.Maps Go.Lib
set_option maxRecDepth 100000
set_option linter.unusedVariables false
set_option linter.unusedSimpArgs false

theorem eqnil (t e : TypeId) (ht : Try.prog.underlying t = some (.slice e)) (w : World) (a : Option Addr) (n c : Nat) : (binOp .eql t (.slice a n c) (.slice none 0 0)).run Try.prog w = .ok (.bool a.isNone) w := Lib.run_eql_slice_nil w _ _ a n c 0 0 ht
/-- A copy of bytes. -/
theorem cloneb_any {w : World} {R : Nat} {v : Value} {bs : List UInt8} (h : BO w R v bs) (hl : bs.length ≤ 65536) :
    Calls Try.prog 27 #[v] w fun e w' => ∃ v', e = .returned v' ∧ BO w' w.heap.size v' bs ∧ Below w.heap.size w w' := by
  obtain ⟨a, c, rfl, h0, hcl, hcz⟩ := h.shape
  cases a with
  | none =>
    obtain rfl := h0 rfl
    obtain rfl := hcz rfl
    have hq := eqnil 39 5 Try.underlying39 w none 0 0
    clear h
    go_enter Try.func27, Try.ntmps27
    go_wp2
    go_ret
    exact ⟨_, rfl, BO.nil _ _, Below.refl _ _⟩
  | some A =>
    have hq := eqnil 39 5 Try.underlying39 w (some A) bs.length c
    obtain ⟨g, rfl⟩ : ∃ g, A = ⟨g, 0, none⟩ := by
      rcases h.2 with ⟨e, -⟩ | ⟨g, cap, cur, hv, -⟩
      · cases e
      · cases hv; exact ⟨g, rfl⟩
    obtain ⟨i0, hi, hz0, hz1, hz2⟩ := info_parts info5
    have hown : (w.alloc (.cells #[] 5)).ownsRow w.heap.size 5 1 (.slice (some ⟨w.heap.size, 0, none⟩) 0 0) 0 [] := World.ownsRow_made w #[] 0 (Nat.le_refl _) (Nat.zero_le _) rfl
    obtain ⟨v', w', e1, e2, e3, -⟩ := run_append_own_at (P := Try.prog) (w.alloc (.cells #[] 5)) w.heap.size 39 39 5 i0 _ 1 1 Try.underlying39 hi hz0 hz1 hz2 rfl (by decide) _ 0 [] hown ⟨g, 0, none⟩ bs.length c (bs.map byV) (by rw [List.length_map, Nat.mul_one]) (fun j u hu => by
      rw [List.getElem?_map] at hu
      obtain ⟨b, hb, rfl⟩ := Option.map_eq_some_iff.1 hu
      rw [Addr.add_mid, Nat.zero_add]
      exact later (bel1 w _) (h.cell hb)) (fun u hu => by obtain ⟨b, -, rfl⟩ := List.mem_map.1 hu; rfl) (by unfold maxLen; omega) (by omega) (by simp)
    rw [Nat.zero_add, List.nil_append] at e2
    have hb' : Below w.heap.size w w' := ((Below.refl _ w).alloc (Nat.le_refl _) _).grown e3 (by simp) (by intro k hk; simp [Value.ownBlock] at hk; omega)
    have HH : Hid (BO w' w.heap.size v' bs ∧ Below w.heap.size w w') := ⟨e2, hb'⟩
    clear h h0 hcz e2 e3 hb' hown
    go_enter Try.func27, Try.ntmps27
    go_wp2_with (first
      | (at_builtin; refine wpList_append_eq rfl _ _ rfl rfl rfl e1 ?_)
      | go_in)
    go_ret
    exact ⟨v', rfl, HH.out.1, HH.out.2⟩

set_option maxHeartbeats 1000000 in
theorem clonem_any {w : World} {M : Nat} {l : List Vn} (h : VM w M l) :
    Calls Try.prog 28 #[.map (some M)] w fun e w' => e = .returned (.map (some w.heap.size)) ∧ VM w' w.heap.size l ∧ Below w.heap.size w w' := by
  have hq := fun w => run_eql_map_nil_sl (P := Try.prog) w 60 _ _ (some M) Try.underlying60
  have hr := h.2
  obtain ⟨⟨es, clock, hb, F, hs, hD⟩, -⟩ := h
  have HH : Hid (VM (w.alloc (.map es clock)) w.heap.size l) := ⟨⟨es, clock, (MapKept.heap_alloc w _).1, F, hs, hD⟩, hr⟩
  clear F hs hD hr
  go_enter Try.func28, Try.ntmps28
  go_wp2
  rw [run_callFunc_extern Try.func41 (by kernel_rfl) (by kernel_rfl) (by kernel_rfl) (e := Extern.MapsClone.clone) (by kernel_rfl), run_maps_clone_sl w 60 hb]
  simp only [Result.andThen]
  rw [Oper.upon_value]
  go_wp2
  rw [run_typeAssert_map_sl _ 60 20 _ _ _ Try.underlying60]
  simp only [Result.andThen]
  rw [Oper.upon_value]
  go_wp2
  go_ret
  exact ⟨rfl, HH.out, bel1 _ _⟩
set_option maxHeartbeats 1000000 in
theorem fork_any {w : World} {A : Bk} {q : Nat} {Q : Rq} (hX : QX w A q Q) (hf : Q.Fine) :
    Calls Try.prog 10 #[PQ q] w fun e w' => e = .returned (PQ w.heap.size) ∧ QX w' (fun k => w.heap.size ≤ k ∧ k < w'.heap.size) w.heap.size Q ∧ Below w.heap.size w w' := by
  obtain ⟨M, v, l, h⟩ := hX
  have hbl : Q.bs.length ≤ 65536 := Nat.le_trans hf.ln hf.r1
  obtain ⟨ab, cb, eb, -⟩ := h.bo.shape
  subst eb
  obtain ⟨⟨c0, c1, c2, c3⟩, -⟩ := h.at4.four
  have bq := bel1 w (.cells (quV Q (.slice ab Q.bs.length cb) M) 62)
  have hF := At.box w (quV Q (.slice ab Q.bs.length cb) M) 62
  have h1 := h.later bq
  have hqw : q < w.heap.size := h.at4.1
  clear hf h
  go_enter Try.func10, Try.ntmps10
  go_upto_region 2 with fail
  have ew : w.alloc (Obj.cells #[Value.int .i64 (Q.room : Int), Value.int .i64 Q.next, Value.slice ab Q.bs.length cb, Value.map (some M)] 62) = w.alloc (.cells (quV Q (.slice ab Q.bs.length cb) M) 62) := rfl
  try rw [ew]
  clear ew c0 c1 c2 c3
  generalize hz : w.heap.size = z at *
  generalize w.alloc (.cells (quV Q (.slice ab Q.bs.length cb) M) 62) = w1 at *
  have c2 : w1.cell? ⟨q, 2, none⟩ = some (.slice ab Q.bs.length cb) := (h1.at4.2 2 _ rfl).1
  have hz1 : z < w1.heap.size := hF.1
  go_wp2_with fail
  refine (cloneb_any h1.bo hbl).mono ?_
  rintro e w2 ⟨vb', rfl, hb2, hbl2⟩
  obtain ⟨a2, b2, e2, -⟩ := hb2.shape
  subst e2
  have hF2 := hF.later hbl2
  have h2 := h1.later hbl2
  have hown2 : ∀ k, (Value.slice a2 Q.bs.length b2).ownBlock = some k → z < k := fun k hk => by
    rcases hb2.2 with ⟨e, -⟩ | ⟨g, cap, cur, e, hg, -⟩
    · rw [e] at hk; cases hk
    · rw [e] at hk; cases hk; show z < g; omega
  obtain ⟨z3, z3f⟩ : w2.cell? ⟨z, 2, none⟩ = some (.slice ab Q.bs.length cb) ∧ w2.frozen? ⟨z, 2, none⟩ = false := hF2.2 2 _ rfl
  clear c2
  go_upto_region 3 with fail
  have hqz : ¬ q = z := by omega
  have hMz : ¬ M = z := by have := h1.vm.lt; intro e; subst e; exact ne_at_vm hF rfl h1.vm rfl
  have h3a := h2.at4.turn (turn_set w2 z 2 (.slice a2 Q.bs.length b2)) hqz
  have h3m := h2.vm.turn (turn_set w2 z 2 (.slice a2 Q.bs.length b2)) hMz
  have hF3 := hF2.set 2 (.slice a2 Q.bs.length b2)
  have hB3 : BO (w2.setCell ⟨z, 2, none⟩ (.slice a2 Q.bs.length b2)) 0 (.slice a2 Q.bs.length b2) Q.bs := row_turn (row_low hb2 (Nat.zero_le _)) (turn_set w2 z 2 _) (fun k hk e => by have := hown2 k hk; omega)
  have HB3 : Hid (Below z w (w2.setCell ⟨z, 2, none⟩ (.slice a2 Q.bs.length b2))) := bq.trans ((hbl2.mono (Nat.le_of_lt hz1)).trans ((turn_set w2 z 2 _).below (by have := hbl2.size; omega) (fun k hk e => by omega)))
  have hrep := h2.rep
  clear hF2 h2 hb2 z3 z3f
  have hs3 : z < (w2.setCell ⟨z, 2, none⟩ (.slice a2 Q.bs.length b2)).heap.size := hF3.1
  generalize w2.setCell ⟨z, 2, none⟩ (.slice a2 Q.bs.length b2) = w3 at *
  have c3 : w3.cell? ⟨q, 3, none⟩ = some (.map (some M)) := (h3a.2 3 _ rfl).1
  go_wp2_with fail
  refine (clonem_any h3m).mono ?_
  rintro e w4 ⟨rfl, hM4, hbl4⟩
  have hF4 := hF3.later hbl4
  have hB4 := row_later hB3 hbl4
  obtain ⟨z4, z4f⟩ : w4.cell? ⟨z, 3, none⟩ = some (.map (some M)) ∧ w4.frozen? ⟨z, 3, none⟩ = false := hF4.2 3 _ rfl
  have hs4 := hM4.lt
  have hsz4 := hbl4.size
  have HQ : Hid (QX (w4.setCell ⟨z, 3, none⟩ (.map (some w3.heap.size))) (fun k => z ≤ k ∧ k < (w4.setCell ⟨z, 3, none⟩ (.map (some w3.heap.size))).heap.size) z Q) := by
    refine ⟨w3.heap.size, _, l, hF4.set 3 _, hM4.turn (turn_set w4 z 3 _) (fun e => by omega), hrep, row_turn hB4 (turn_set w4 z 3 _) (fun k hk e => by have := hown2 k hk; omega), ⟨Nat.le_refl _, by simp; omega⟩, ⟨by omega, by simp; omega⟩, fun k hk => ?_, fun k hk => hk.2⟩
    have g1 := hown2 k hk
    have g2 := hB3.lt hk
    exact ⟨⟨by omega, by simp; omega⟩, by omega, by omega⟩
  have HB4 : Hid (Below z w (w4.setCell ⟨z, 3, none⟩ (.map (some w3.heap.size)))) := HB3.out.trans ((hbl4.mono (Nat.le_of_lt hs3)).trans ((turn_set w4 z 3 _).below (by have := hbl4.size; omega) (fun k hk e => by omega)))
  clear hF4 hB4 hF3 hB3 h3a h3m hM4 c3
  go_wp2
  go_ret
  subst hz
  exact ⟨rfl, HQ.out, HB4.out⟩
end Go.Proofs.Ytiglaalppaljbaa
