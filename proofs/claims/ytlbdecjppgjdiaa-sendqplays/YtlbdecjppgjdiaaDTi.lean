/- slices.Clone of bytes and of parts; Fork. -/
import Derived.Test.YtlbdecjppgjdiaaDQg
import Derived.Laws.OwnMore
import Derived.Maps.AppendAt
namespace Go.Proofs.Ytlbdecjppgjdiaa
open Go.RowKit Go.Maps Go.Lib
set_option maxRecDepth 100000
set_option linter.unusedVariables false
set_option linter.unusedSimpArgs false


theorem eqnil (t e : TypeId) (ht : Try.prog.underlying t = some (.slice e)) (w : World) (a : Option Addr) (n c : Nat) : (binOp .eql t (.slice a n c) (.slice none 0 0)).run Try.prog w = .ok (.bool a.isNone) w := Lib.run_eql_slice_nil w _ _ a n c 0 0 ht
/-- A copy of bytes. -/
theorem cloneb_any {w : World} {R : Bk} {v : Value} {bs : List UInt8} (h : BO w R v bs) (hl : bs.length ≤ 65536) :
    Calls Try.prog 26 #[v] w fun e w' => ∃ v', e = .returned v' ∧ BO w' (fun k => w.heap.size ≤ k) v' bs ∧ Below w.heap.size w w' := by
  obtain ⟨a, c, rfl, h0, hcl, hcz⟩ := h.shape
  cases a with
  | none =>
    obtain rfl := h0 rfl
    obtain rfl := hcz rfl
    have hq := eqnil 57 5 Try.underlying57 w none 0 0
    clear h
    go_enter Try.func26, Try.ntmps26
    go_wp2
    go_ret
    exact ⟨_, rfl, BO.nil _ _, Below.refl _ _⟩
  | some A =>
    have hq := eqnil 57 5 Try.underlying57 w (some A) bs.length c
    obtain ⟨g, rfl⟩ : ∃ g, A = ⟨g, 0, none⟩ := by
      rcases h.2 with ⟨e, -⟩ | ⟨g, cap, cur, hv, -⟩
      · cases e
      · cases hv; exact ⟨g, rfl⟩
    obtain ⟨i0, hi, hz0, hz1, hz2⟩ := info_parts info5
    have hown : (w.alloc (.cells #[] 5)).ownsRow w.heap.size 5 1 (.slice (some ⟨w.heap.size, 0, none⟩) 0 0) 0 [] := World.ownsRow_made w #[] 0 (Nat.le_refl _) (Nat.zero_le _) rfl
    obtain ⟨v', w', e1, e2, e3, -⟩ := run_append_own_at (P := Try.prog) (w.alloc (.cells #[] 5)) w.heap.size 57 57 5 i0 _ 1 1 Try.underlying57 hi hz0 hz1 hz2 rfl (by decide) _ 0 [] hown ⟨g, 0, none⟩ bs.length c (bs.map byV) (by rw [List.length_map, Nat.mul_one]) (fun j u hu => by
      rw [List.getElem?_map] at hu
      obtain ⟨b, hb, rfl⟩ := Option.map_eq_some_iff.1 hu
      rw [Addr.add_mid, Nat.zero_add]
      exact later (bel1 w _) (h.cell hb)) (fun u hu => by obtain ⟨b, -, rfl⟩ := List.mem_map.1 hu; rfl) (by unfold maxLen; omega) (by omega) (by simp)
    rw [Nat.zero_add, List.nil_append] at e2
    have hb' : Below w.heap.size w w' := ((Below.refl _ w).alloc (Nat.le_refl _) _).grown e3 (by simp) (by intro k hk; simp [Value.ownBlock] at hk; omega)
    have HH : Hid (BO w' (fun k => w.heap.size ≤ k) v' bs ∧ Below w.heap.size w w') := ⟨OwnP.of_ge e2 (fun k h => h), hb'⟩
    clear h h0 hcz e2 e3 hb' hown
    go_enter Try.func26, Try.ntmps26
    go_wp2_with (first
      | (at_builtin; refine wpList_append_eq rfl _ _ rfl rfl rfl e1 ?_)
      | go_in)
    go_ret
    exact ⟨v', rfl, HH.out.1, HH.out.2⟩
/-- A copy of parts. -/
theorem clonep_any {w : World} {R : Bk} {v : Value} {ps : List Pt} (h : PO w R v ps) (hl : ps.length ≤ 65536) :
    Calls Try.prog 27 #[v] w fun e w' => ∃ v', e = .returned v' ∧ PO w' (fun k => w.heap.size ≤ k) v' ps ∧ Below w.heap.size w w' := by
  obtain ⟨a, c, rfl, h0, hcl, hcz⟩ := h.shape
  cases a with
  | none =>
    obtain rfl := h0 rfl
    obtain rfl := hcz rfl
    have hq := eqnil 65 71 Try.underlying65 w none 0 0
    clear h
    go_enter Try.func27, Try.ntmps27
    go_wp2
    go_ret
    exact ⟨_, rfl, PO.nil _ _, Below.refl _ _⟩
  | some A =>
    have hq := eqnil 65 71 Try.underlying65 w (some A) ps.length c
    obtain ⟨g, rfl⟩ : ∃ g, A = ⟨g, 0, none⟩ := by
      rcases h.2 with ⟨e, -⟩ | ⟨g, cap, cur, hv, -⟩
      · cases e
      · cases hv; exact ⟨g, rfl⟩
    obtain ⟨i0, hi, hz0, hz1, hz2⟩ := info_parts infoP
    have hown : (w.alloc (.cells #[] 71)).ownsRow w.heap.size 71 2 (.slice (some ⟨w.heap.size, 0, none⟩) 0 0) 0 [] := World.ownsRow_made w #[] 0 (Nat.le_refl _) (Nat.zero_le _) rfl
    obtain ⟨v', w', e1, e2, e3, -⟩ := run_append_own_at (P := Try.prog) (w.alloc (.cells #[] 71)) w.heap.size 65 65 71 i0 _ 2 16 Try.underlying65 hi hz0 hz1 hz2 rfl (by decide) _ 0 [] hown ⟨g, 0, none⟩ ps.length c (ps.flatMap enP) (flat_len ps) (fun j u hu => by
      have := h.cells (g := g) rfl j u hu
      exact later (bel1 w _) this) (flat_one ps) (by unfold maxLen; omega) (by omega) (by simp)
    rw [Nat.zero_add, List.nil_append] at e2
    have hb' : Below w.heap.size w w' := ((Below.refl _ w).alloc (Nat.le_refl _) _).grown e3 (by simp) (by intro k hk; simp [Value.ownBlock] at hk; omega)
    have HH : Hid (PO w' (fun k => w.heap.size ≤ k) v' ps ∧ Below w.heap.size w w') := ⟨OwnP.of_ge e2 (fun k h => h), hb'⟩
    clear h h0 hcz e2 e3 hb' hown
    go_enter Try.func27, Try.ntmps27
    go_wp2_with (first
      | (at_builtin; refine wpList_append_eq rfl _ _ rfl rfl rfl e1 ?_)
      | go_in)
    go_ret
    exact ⟨v', rfl, HH.out.1, HH.out.2⟩
set_option maxHeartbeats 1000000 in
theorem fork_any {w : World} {R : Bk} {q : Nat} {Q : Qu} {vb vp : Value} (h : QX w R q Q vb vp) (hf : Q.Fine) :
    Calls Try.prog 10 #[PQ q] w fun e w' => ∃ vb' vp', e = .returned (PQ w.heap.size) ∧ QX w' (fun k => w.heap.size ≤ k) w.heap.size Q vb' vp' ∧ Below w.heap.size w w' := by
  have hbl : Q.bs.length ≤ 65536 := by have := hf.ln; have := hf.r1; omega
  have hpl : Q.ps.length ≤ 65536 := by have := psOk_len hf.ok; have := hf.sn; omega
  obtain ⟨ab, cb, eb, -⟩ := h.bo.shape
  obtain ⟨ap, cp, ep, -⟩ := h.po.shape
  subst eb ep
  obtain ⟨⟨c0, c1, c2, c3, c4⟩, -⟩ := h.at5.five
  have bq := bel1 w (.cells (quV Q (.slice ab Q.bs.length cb) (.slice ap Q.ps.length cp)) 67)
  have hF := At.box w (quV Q (.slice ab Q.bs.length cb) (.slice ap Q.ps.length cp)) 67
  have hFk := Kd.box w (quV Q (.slice ab Q.bs.length cb) (.slice ap Q.ps.length cp)) 67
  have h1 := h.later bq
  have hqw : q < w.heap.size := h.at5.1
  clear hf h
  go_enter Try.func10, Try.ntmps10
  go_upto_region 2 with fail
  have ew : w.alloc (Obj.cells #[Value.int .i64 Q.room, Value.int .i64 Q.left, Value.int .i64 (Q.sent : Int), Value.slice ab Q.bs.length cb, Value.slice ap Q.ps.length cp] 67) = w.alloc (.cells (quV Q (.slice ab Q.bs.length cb) (.slice ap Q.ps.length cp)) 67) := rfl
  try rw [ew]
  clear ew c0 c1 c2 c3 c4
  generalize hz : w.heap.size = z at *
  generalize w.alloc (.cells (quV Q (.slice ab Q.bs.length cb) (.slice ap Q.ps.length cp)) 67) = w1 at *
  have c3 := (h1.at5.2 3 _ rfl).1
  have hz1 : z < w1.heap.size := hF.1
  go_wp2_with fail
  refine (cloneb_any h1.bo hbl).mono ?_
  rintro e w2 ⟨vb', rfl, hb2, hbl2⟩
  obtain ⟨a2, b2, e2, -⟩ := hb2.shape
  subst e2
  have hF2 := hF.later hbl2
  have hK2 := hFk.later hbl2
  have h2 := h1.later hbl2
  obtain ⟨z3, z3f⟩ := hF2.2 3 _ rfl
  clear c3
  go_upto_region 3 with fail
  have hqz : ¬ q = z := by omega
  have h3a := h2.at5.turn (turn_set w2 z 3 (.slice a2 Q.bs.length b2)) hqz
  have h3p := row_set h2.po hK2 (by decide) 3 (.slice a2 Q.bs.length b2)
  have hF3 := hF2.set 3 (.slice a2 Q.bs.length b2)
  have hK3 := hK2.set ⟨z, 3, none⟩ (.slice a2 Q.bs.length b2)
  have hB3 : BO (w2.setCell ⟨z, 3, none⟩ (.slice a2 Q.bs.length b2)) (fun k => z ≤ k) (.slice a2 Q.bs.length b2) Q.bs := row_set (row_low hb2 (fun k h => Nat.le_trans (Nat.le_of_lt hz1) h)) hK2 (by decide) 3 _
  have HB3 : Hid (Below z w (w2.setCell ⟨z, 3, none⟩ (.slice a2 Q.bs.length b2))) := bq.trans ((hbl2.mono (Nat.le_of_lt hz1)).trans ((turn_set w2 z 3 _).below (by have := hbl2.size; omega) (fun k hk e => by omega)))
  clear hF2 hK2 h2 hb2 z3 z3f
  have hs3 : z < (w2.setCell ⟨z, 3, none⟩ (.slice a2 Q.bs.length b2)).heap.size := hF3.1
  generalize w2.setCell ⟨z, 3, none⟩ (.slice a2 Q.bs.length b2) = w3 at *
  have c4 := (h3a.2 4 _ rfl).1
  go_wp2_with fail
  refine (clonep_any h3p hpl).mono ?_
  rintro e w4 ⟨vp', rfl, hp4, hbl4⟩
  obtain ⟨a4, b4, e4, -⟩ := hp4.shape
  subst e4
  have hF4 := hF3.later hbl4
  have hK4 := hK3.later hbl4
  have hB4 := row_later hB3 hbl4
  obtain ⟨z4, z4f⟩ := hF4.2 4 _ rfl
  have HQ : Hid (QX (w4.setCell ⟨z, 4, none⟩ (.slice a4 Q.ps.length b4)) (fun k => z ≤ k) z Q (.slice a2 Q.bs.length b2) (.slice a4 Q.ps.length b4)) := ⟨hF4.set 4 _, hK4.set _ _, Nat.le_refl _, row_set hB4 hK4 (by decide) _ _, row_set (row_low hp4 (fun k h => Nat.le_trans (Nat.le_of_lt hs3) h)) hK4 (by decide) _ _⟩
  have HB4 : Hid (Below z w (w4.setCell ⟨z, 4, none⟩ (.slice a4 Q.ps.length b4))) := HB3.out.trans ((hbl4.mono (Nat.le_of_lt hs3)).trans ((turn_set w4 z 4 _).below (by have := hbl4.size; omega) (fun k hk e => by omega)))
  clear hF4 hK4 hB4 hF3 hK3 hB3 h3a h3p hp4 c4
  go_wp2
  go_ret
  subst hz
  exact ⟨_, _, rfl, HQ.out, HB4.out⟩
end Go.Proofs.Ytlbdecjppgjdiaa
