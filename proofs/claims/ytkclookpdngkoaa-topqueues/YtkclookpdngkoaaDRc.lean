/- with: parts and one more. -/
import Derived.Test.YtkclookpdngkoaaDRb
import Derived.Test.YtkclookpdngkoaaDQi
namespace Go.Proofs.Ytkclookpdngkoaa.S
open Go.RowKit Go.Maps Go.Lib
set_option maxRecDepth 100000
set_option linter.unusedVariables false
set_option linter.unusedSimpArgs false


def inP (ps : List Pt) (k : Nat) : Prop := ∃ e ∈ ps, e.1 ≤ k ∧ k < e.2
/-- What the loop of 'with' keeps: the part that is grown has taken those from i to ahead of j. -/
structure WI (N : Nat) (ps : List Pt) (p : Pt) (i j a b : Nat) : Prop where
  ij : i ≤ j
  jn : j ≤ ps.length
  ab : a < b
  bN : b ≤ N
  ap : a ≤ p.1
  low : ∀ t q, ps[t]? = some q → t < i → q.2 < a
  cut : ∀ t q, ps[t]? = some q → i ≤ t → p.1 ≤ q.2
  iff : ∀ k, (a ≤ k ∧ k < b) ↔ ((p.1 ≤ k ∧ k < p.2) ∨ ∃ t q, ps[t]? = some q ∧ i ≤ t ∧ t < j ∧ q.1 ≤ k ∧ k < q.2)
theorem ps_lt {N : Nat} {ps : List Pt} (h : PsOk N ps) {s t : Nat} {x y : Pt} (hx : ps[s]? = some x) (hy : ps[t]? = some y) (hst : s < t) : x.2 < y.1 := by
  obtain ⟨h1, e1⟩ := List.getElem?_eq_some_iff.1 hx
  obtain ⟨h2, e2⟩ := List.getElem?_eq_some_iff.1 hy
  rw [← e1, ← e2]
  exact List.pairwise_iff_getElem.1 h.1 s t h1 h2 hst
theorem ps_mem {N : Nat} {ps : List Pt} (h : PsOk N ps) {s : Nat} {x : Pt} (hx : ps[s]? = some x) : x.1 < x.2 ∧ x.2 ≤ N := h.2 x (List.mem_of_getElem? hx)
theorem WI.step {N : Nat} {ps : List Pt} {p : Pt} {i j a b : Nat} (h : WI N ps p i j a b) (hp : PsOk N ps) {x : Pt} (hx : ps[j]? = some x) (hb : x.1 ≤ b) : WI N ps p i (j + 1) (min a x.1) (max b x.2) := by
  have hxx := ps_mem hp hx
  have hc := h.cut j x hx h.ij
  have h1 := h.ap
  have h2 := h.ab
  have h3 := h.bN
  have hjl := (List.getElem?_eq_some_iff.1 hx).1
  refine ⟨Nat.le_succ_of_le h.ij, hjl, by omega, by omega, by omega, fun t q hq ht => ?_, h.cut, fun k => ?_⟩
  · have e1 := h.low t q hq ht
    have e2 := ps_lt hp hq hx (by have := h.ij; omega)
    omega
  · constructor
    · intro hk
      by_cases hab : a ≤ k ∧ k < b
      · rcases (h.iff k).1 hab with h5 | ⟨t, q, h5, h6, h7, h8⟩
        · exact Or.inl h5
        · exact Or.inr ⟨t, q, h5, h6, by omega, h8⟩
      · exact Or.inr ⟨j, x, hx, h.ij, by omega, by omega, by omega⟩
    · rintro (h5 | ⟨t, q, h5, h6, h7, h8⟩)
      · have := (h.iff k).2 (Or.inl h5)
        omega
      · rcases Nat.lt_or_ge t j with h9 | h9
        · have := (h.iff k).2 (Or.inr ⟨t, q, h5, h6, h9, h8⟩)
          omega
        · obtain rfl : t = j := by omega
          rw [hx] at h5
          cases h5
          omega
theorem WI.done {N : Nat} {ps : List Pt} {p : Pt} {i j a b : Nat} (h : WI N ps p i j a b) (hp : PsOk N ps) (he : ∀ x, ps[j]? = some x → b < x.1) : PsOk N (repL ps i j (a, b)) ∧ ∀ k, inP (repL ps i j (a, b)) k ↔ inP ps k ∨ p.1 ≤ k ∧ k < p.2 := by
  have hgt : ∀ t q, ps[t]? = some q → j ≤ t → b < q.1 := by
    intro t q hq ht
    have hjl : j < ps.length := Nat.lt_of_le_of_lt ht (List.getElem?_eq_some_iff.1 hq).1
    have hx := he _ (List.getElem?_eq_getElem hjl)
    rcases Nat.lt_or_ge j t with h5 | h5
    · have := ps_lt hp (List.getElem?_eq_getElem hjl) hq h5
      have := ps_mem hp (List.getElem?_eq_getElem hjl)
      omega
    · obtain rfl : t = j := by omega
      rw [List.getElem?_eq_getElem hjl] at hq
      cases hq
      exact hx
  have mt : ∀ e, e ∈ ps.take i → ∃ t, ps[t]? = some e ∧ t < i := by
    intro e he
    obtain ⟨t, ht⟩ := List.getElem?_of_mem he
    have hti : t < i := by have := (List.getElem?_eq_some_iff.1 ht).1; rw [List.length_take] at this; omega
    rw [List.getElem?_take_of_lt hti] at ht
    exact ⟨t, ht, hti⟩
  have md : ∀ e, e ∈ ps.drop j → ∃ t, ps[t]? = some e ∧ j ≤ t := by
    intro e he
    obtain ⟨t, ht⟩ := List.getElem?_of_mem he
    rw [List.getElem?_drop] at ht
    exact ⟨j + t, ht, by omega⟩
  refine ⟨⟨?_, ?_⟩, ?_⟩
  · unfold repL
    rw [List.pairwise_append]
    refine ⟨hp.1.sublist (List.take_sublist _ _), List.pairwise_cons.2 ⟨fun e he => ?_, hp.1.sublist (List.drop_sublist _ _)⟩, fun x hx y hy => ?_⟩
    · obtain ⟨t, h1, h2⟩ := md e he
      exact hgt t e h1 h2
    · obtain ⟨s, h1, h2⟩ := mt x hx
      rcases List.mem_cons.1 hy with rfl | hy
      · exact h.low s x h1 h2
      · obtain ⟨t, h3, h4⟩ := md y hy
        exact ps_lt hp h1 h3 (by have := h.ij; omega)
  · intro e he
    unfold repL at he
    rcases List.mem_append.1 he with he | he
    · exact hp.2 e (List.mem_of_mem_take he)
    · rcases List.mem_cons.1 he with rfl | he
      · exact ⟨h.ab, h.bN⟩
      · exact hp.2 e (List.mem_of_mem_drop he)
  · intro k
    unfold inP repL
    constructor
    · rintro ⟨e, he, hk⟩
      rcases List.mem_append.1 he with he | he
      · exact Or.inl ⟨e, List.mem_of_mem_take he, hk⟩
      · rcases List.mem_cons.1 he with rfl | he
        · rcases (h.iff k).1 hk with h5 | ⟨t, q, h5, h6, h7, h8⟩
          · exact Or.inr h5
          · exact Or.inl ⟨q, List.mem_of_getElem? h5, h8⟩
        · exact Or.inl ⟨e, List.mem_of_mem_drop he, hk⟩
    · rintro (⟨e, he, hk⟩ | hk)
      · obtain ⟨t, ht⟩ := List.getElem?_of_mem he
        rcases Nat.lt_or_ge t i with h5 | h5
        · refine ⟨e, List.mem_append_left _ ?_, hk⟩
          rw [← List.getElem?_take_of_lt h5] at ht
          exact List.mem_of_getElem? ht
        · rcases Nat.lt_or_ge t j with h6 | h6
          · exact ⟨(a, b), List.mem_append_right _ (List.mem_cons_self ..), (h.iff k).2 (Or.inr ⟨t, e, ht, h5, h6, hk⟩)⟩
          · refine ⟨e, List.mem_append_right _ (List.mem_cons_of_mem _ ?_), hk⟩
            have : (ps.drop j)[t - j]? = some e := by rw [List.getElem?_drop, Nat.add_sub_cancel' h6]; exact ht
            exact List.mem_of_getElem? this
      · exact ⟨(a, b), List.mem_append_right _ (List.mem_cons_self ..), (h.iff k).2 (Or.inl hk)⟩
theorem ps_le2 {N : Nat} {ps : List Pt} (h : PsOk N ps) : ps.Pairwise (fun a b => a.2 ≤ b.2) := by
  refine (List.Pairwise.and_mem.1 h.1).imp ?_
  rintro x y ⟨hx, hy, hxy⟩
  have := h.2 y hy
  omega
set_option maxHeartbeats 4000000 in
theorem with_any {w : World} {R : Bk} {N : Nat} {v : Value} {ps : List Pt} (p : Pt) (hr : PO w R v ps) (hR : UpR R w) (hp : PsOk N ps) (hN : N ≤ 65536) (h1 : p.1 < p.2) (h2 : p.2 ≤ N) :
    Calls Try.prog 29 #[v, .agg (HV p.1 p.2)] w fun e w' => ∃ v' L, e = .returned v' ∧ PO w' R v' L ∧ PsOk N L ∧ (∀ k, inP L k ↔ inP ps k ∨ p.1 ≤ k ∧ k < p.2) ∧ Turn (fun k => v.ownBlock = some k) w w' := by
  have hln := psOk_len hp
  have hsv := fun W (hW : Below w.heap.size w W) => search_any ps (p.1 : Int) W v R (row_later hr hW) (by omega) (ps_le2 hp)
  have HP : Hid (PsOk N ps) := hp
  have HR : Hid (PO w R v ps) := hr
  obtain ⟨a, c, rfl, h0, hcl, -⟩ := hr.shape
  have hA := At.box w (HV p.1 p.2) 58
  have hb0 := bel1 w (.cells (HV p.1 p.2) 58)
  have hvw : ∀ k, (Value.slice a ps.length c).ownBlock = some k → k < w.heap.size := fun k hk => (row_kd hr k hk).2.lt
  have hnc : (ps.length : Int) ≤ (c : Int) := by omega
  clear hr hp h0
  go_enter Try.func29, Try.ntmps29
  go_upto_region 1 with fail
  have hcs := hsv _ hb0
  generalize hz0 : w.heap.size = z0 at *
  have ew : w.alloc (Obj.cells #[Value.int .i64 (p.1 : Int), Value.int .i64 (p.2 : Int)] 58) = w.alloc (.cells (HV p.1 p.2) 58) := rfl
  try rw [ew]
  clear ew
  generalize w.alloc (.cells (HV p.1 p.2) 58) = w1 at *
  have p0 := (hA.2 0 _ rfl).1
  go_wp2_with fail
  refine hcs.mono ?_
  rintro e w2 ⟨⟨i, bb, hi, rfl, hcut⟩, hb2⟩
  have HST : Hid (At w2 z0 (HV p.1 p.2) ∧ Below z0 w w2 ∧ WI N ps p i i p.1 p.2) := ⟨hA.later hb2, hb0.trans (hb2.mono (Nat.le_of_lt hA.1)), ⟨Nat.le_refl _, hi, h1, h2, Nat.le_refl _, fun t q hq ht => by have := hcut.1 t q hq ht; omega, fun t q hq ht => by have := hcut.2 t q hq ht; omega, fun k => ⟨fun h => Or.inl h, fun h => by rcases h with h | ⟨t, q, _, h5, h6, _⟩; exact h; omega⟩⟩⟩
  clear hcut hcs hsv p0 hA hb2 hb0
  go_wp2
  go_loopw [7] (fun s7 W => ∃ j a' b' : Nat, s7 = .int .i64 (j : Int) ∧ Hid (At W z0 (HV a' b') ∧ Below z0 w W ∧ WI N ps p i j a' b')) (fun s7 _ => ps.length - (RowKit.intOf s7).toNat)
  case atStart => exact ⟨i, p.1, p.2, rfl, HST⟩
  case round =>
    obtain ⟨j, a', b', rfl, HI⟩ := hrel
    obtain ⟨hA, hB, hW⟩ := HI.out
    have hjn := hW.jn
    have hbN := hW.bN
    have hab := hW.ab
    have hzr : z0 < wr.heap.size := hA.1
    have hz2 : Below w.heap.size w wr := by rw [hz0]; exact hB
    have hrl := row_later HR.out hz2
    by_cases hlt : j < ps.length
    · obtain ⟨x, hx⟩ : ∃ x, ps[j]? = some x := ⟨_, List.getElem?_eq_getElem hlt⟩
      obtain ⟨g, c', cur, hv, -, hbk, -⟩ := PO.real hrl (fun e => by rw [e] at hlt; cases hlt)
      injection hv with e1 e2 e3
      subst e1 e3
      obtain ⟨r0, r1⟩ := PO.cell hrl hx
      have hgz : g < z0 := by have := hvw g rfl; omega
      have hltI : (j : Int) < (ps.length : Int) := by omega
      have hxx := ps_mem HP.out hx
      have c0 := hA.2 0 _ rfl
      have c1 := hA.2 1 _ rfl
      obtain ⟨c0a, c0b⟩ := c0
      obtain ⟨c1a, c1b⟩ := c1
      have HX : Hid (ps[j]? = some x) := hx
      have HRL : Hid (PO wr R (.slice (some ⟨g, 0, none⟩) ps.length c) ps) := hrl
      have HA : Hid (At wr z0 (HV a' b')) := hA
      have HBW : Hid (Below z0 w wr) := hB
      have HWI : Hid (WI N ps p i j a' b') := hW
      clear hx hrl hA hB hW HI hbk hz2
      have j0 : (0 : Int) ≤ (j : Int) := by omega
      go_upto_region 3 with fail
      refine wp_region_held_drew (S := (fun W => W.cell? ⟨g, j * 2, none⟩ = some (.int .i64 (x.1 : Int)) ∧ W.cell? ⟨z0, 1, none⟩ = some (.int .i64 (b' : Int)))) (by kernel_rfl) ?_ (fun hHeld => ?_)
      · first | exact ⟨r0, c1a⟩ | assumption
      refine wpAnyH_take (i := 0) (oi := ({ dst := some 16, op := Go.Op.move (Go.Operand.tmp 7), type := 3, pos := "sendq.go:145", after := #[], guard := none } : Go.Oper)) (v := .int .i64 (j : Int)) rfl (by kernel_rfl) (by kernel_rfl) (by kernel_rfl) (fun _ _ _ h => h) (Or.inl ⟨by rfl, ?_⟩) (by assumption) ?_
      · intro wx hSw
        try dsimp only at hSw
        have u0 := hSw.1
        have u1 := hSw.2
        go_simp
        try with_reducible rfl
      try simp only [Act.put, List.setIfInBounds_toArray, List.set_cons_zero, List.set_cons_succ]
      refine wpAnyH_take (i := 1) (oi := ({ dst := some 17, op := Go.Op.move (Go.Operand.tmp 0), type := 51, pos := "sendq.go:145", after := #[], guard := none } : Go.Oper)) (v := .slice (some ⟨g, 0, none⟩) ps.length c) rfl (by kernel_rfl) (by kernel_rfl) (by kernel_rfl) (fun _ _ _ h => h) (Or.inl ⟨by rfl, ?_⟩) (by assumption) ?_
      · intro wx hSw
        try dsimp only at hSw
        have u0 := hSw.1
        have u1 := hSw.2
        go_simp
        try with_reducible rfl
      try simp only [Act.put, List.setIfInBounds_toArray, List.set_cons_zero, List.set_cons_succ]
      refine wpAnyH_take (i := 2) (oi := ({ dst := some 18, op := Go.Op.call { callee := Go.Callee.builtin Go.Builtin.len, args := #[Go.Operand.tmp 17], argTypes := #[51] }, type := 3, pos := "sendq.go:145", after := #[{ on := 1, ground := Go.Ground.data }], guard := none } : Go.Oper)) (v := .int .i64 (ps.length : Int)) rfl (by kernel_rfl) (by kernel_rfl) (by kernel_rfl) (fun _ _ _ h => h) (Or.inl ⟨by rfl, ?_⟩) (by assumption) ?_
      · intro wx hSw
        try dsimp only at hSw
        have u0 := hSw.1
        have u1 := hSw.2
        go_simp
        try with_reducible rfl
      try simp only [Act.put, List.setIfInBounds_toArray, List.set_cons_zero, List.set_cons_succ]
      refine wpAnyH_take (i := 3) (oi := ({ dst := some 19, op := Go.Op.binOp Go.BinOp.lss 3 (Go.Operand.tmp 16) (Go.Operand.tmp 18) 3, type := 4, pos := "sendq.go:145", after := #[{ on := 0, ground := Go.Ground.data }, { on := 2, ground := Go.Ground.data }], guard := none } : Go.Oper)) (v := .bool true) rfl (by kernel_rfl) (by kernel_rfl) (by kernel_rfl) (fun _ _ _ h => h) (Or.inl ⟨by rfl, ?_⟩) (by assumption) ?_
      · intro wx hSw
        try dsimp only at hSw
        have u0 := hSw.1
        have u1 := hSw.2
        go_simp
        try with_reducible rfl
      try simp only [Act.put, List.setIfInBounds_toArray, List.set_cons_zero, List.set_cons_succ]
      refine wpAnyH_take (i := 4) (oi := ({ dst := some 20, op := Go.Op.move (Go.Operand.tmp 19), type := 4, pos := "sendq.go:145", after := #[{ on := 3, ground := Go.Ground.data }], guard := none } : Go.Oper)) (v := .bool true) rfl (by kernel_rfl) (by kernel_rfl) (by kernel_rfl) (fun _ _ _ h => h) (Or.inl ⟨by rfl, ?_⟩) (by assumption) ?_
      · intro wx hSw
        try dsimp only at hSw
        have u0 := hSw.1
        have u1 := hSw.2
        go_simp
        try with_reducible rfl
      try simp only [Act.put, List.setIfInBounds_toArray, List.set_cons_zero, List.set_cons_succ]
      refine wpAnyH_take (i := 5) (oi := ({ dst := some 21, op := Go.Op.move (Go.Operand.tmp 0), type := 51, pos := "sendq.go:145", after := #[{ on := 4, ground := Go.Ground.guard }], guard := some (4, true) } : Go.Oper)) (v := .slice (some ⟨g, 0, none⟩) ps.length c) rfl (by kernel_rfl) (by kernel_rfl) (by kernel_rfl) (fun _ _ _ h => h) (Or.inl ⟨by rfl, ?_⟩) (by assumption) ?_
      · intro wx hSw
        try dsimp only at hSw
        have u0 := hSw.1
        have u1 := hSw.2
        go_simp
        try with_reducible rfl
      try simp only [Act.put, List.setIfInBounds_toArray, List.set_cons_zero, List.set_cons_succ]
      refine wpAnyH_take (i := 6) (oi := ({ dst := some 22, op := Go.Op.move (Go.Operand.tmp 7), type := 3, pos := "sendq.go:145", after := #[{ on := 4, ground := Go.Ground.guard }], guard := some (4, true) } : Go.Oper)) (v := .int .i64 (j : Int)) rfl (by kernel_rfl) (by kernel_rfl) (by kernel_rfl) (fun _ _ _ h => h) (Or.inl ⟨by rfl, ?_⟩) (by assumption) ?_
      · intro wx hSw
        try dsimp only at hSw
        have u0 := hSw.1
        have u1 := hSw.2
        go_simp
        try with_reducible rfl
      try simp only [Act.put, List.setIfInBounds_toArray, List.set_cons_zero, List.set_cons_succ]
      refine wpAnyH_take (i := 7) (oi := ({ dst := some 23, op := Go.Op.indexAddr 51 (Go.Operand.tmp 21) (Go.Operand.tmp 22), type := 0, pos := "sendq.go:145", after := #[{ on := 5, ground := Go.Ground.data }, { on := 6, ground := Go.Ground.data }, { on := 4, ground := Go.Ground.guard }], guard := some (4, true) } : Go.Oper)) (v := .pointer (some ⟨g, j * 2, none⟩)) rfl (by kernel_rfl) (by kernel_rfl) (by kernel_rfl) (fun _ _ _ h => h) (Or.inl ⟨by rfl, ?_⟩) (by assumption) ?_
      · intro wx hSw
        try dsimp only at hSw
        have u0 := hSw.1
        have u1 := hSw.2
        go_simp
        try with_reducible rfl
      try simp only [Act.put, List.setIfInBounds_toArray, List.set_cons_zero, List.set_cons_succ]
      refine wpAnyH_take (i := 8) (oi := ({ dst := some 24, op := Go.Op.fieldAddr 58 (Go.Operand.tmp 23) 0, type := 0, pos := "sendq.go:145", after := #[{ on := 7, ground := Go.Ground.data }, { on := 4, ground := Go.Ground.guard }], guard := some (4, true) } : Go.Oper)) (v := .pointer (some ⟨g, j * 2, none⟩)) rfl (by kernel_rfl) (by kernel_rfl) (by kernel_rfl) (fun _ _ _ h => h) (Or.inl ⟨by rfl, ?_⟩) (by assumption) ?_
      · intro wx hSw
        try dsimp only at hSw
        have u0 := hSw.1
        have u1 := hSw.2
        go_simp
        try with_reducible rfl
      try simp only [Act.put, List.setIfInBounds_toArray, List.set_cons_zero, List.set_cons_succ]
      refine wpAnyH_take (i := 9) (oi := ({ dst := some 25, op := Go.Op.load 3 (Go.Operand.tmp 24), type := 3, pos := "sendq.go:145", after := #[{ on := 8, ground := Go.Ground.data }, { on := 4, ground := Go.Ground.guard }], guard := some (4, true) } : Go.Oper)) (v := .int .i64 (x.1 : Int)) rfl (by kernel_rfl) (by kernel_rfl) (by kernel_rfl) (fun _ _ _ h => h) (Or.inl ⟨by rfl, ?_⟩) (by assumption) ?_
      · intro wx hSw
        try dsimp only at hSw
        have u0 := hSw.1
        have u1 := hSw.2
        go_simp
        try with_reducible rfl
      try simp only [Act.put, List.setIfInBounds_toArray, List.set_cons_zero, List.set_cons_succ]
      refine wpAnyH_take (i := 10) (oi := ({ dst := some 26, op := Go.Op.fieldAddr 58 (Go.Operand.tmp 3) 1, type := 0, pos := "sendq.go:145", after := #[{ on := 4, ground := Go.Ground.guard }], guard := some (4, true) } : Go.Oper)) (v := .pointer (some ⟨z0, 1, none⟩)) rfl (by kernel_rfl) (by kernel_rfl) (by kernel_rfl) (fun _ _ _ h => h) (Or.inl ⟨by rfl, ?_⟩) (by assumption) ?_
      · intro wx hSw
        try dsimp only at hSw
        have u0 := hSw.1
        have u1 := hSw.2
        go_simp
        try with_reducible rfl
      try simp only [Act.put, List.setIfInBounds_toArray, List.set_cons_zero, List.set_cons_succ]
      refine wpAnyH_take (i := 11) (oi := ({ dst := some 27, op := Go.Op.load 3 (Go.Operand.tmp 26), type := 3, pos := "sendq.go:145", after := #[{ on := 10, ground := Go.Ground.data }, { on := 4, ground := Go.Ground.guard }], guard := some (4, true) } : Go.Oper)) (v := .int .i64 (b' : Int)) rfl (by kernel_rfl) (by kernel_rfl) (by kernel_rfl) (fun _ _ _ h => h) (Or.inl ⟨by rfl, ?_⟩) (by assumption) ?_
      · intro wx hSw
        try dsimp only at hSw
        have u0 := hSw.1
        have u1 := hSw.2
        go_simp
        try with_reducible rfl
      try simp only [Act.put, List.setIfInBounds_toArray, List.set_cons_zero, List.set_cons_succ]
      refine wpAnyH_take (i := 12) (oi := ({ dst := some 28, op := Go.Op.binOp Go.BinOp.leq 3 (Go.Operand.tmp 25) (Go.Operand.tmp 27) 3, type := 4, pos := "sendq.go:145", after := #[{ on := 9, ground := Go.Ground.data }, { on := 11, ground := Go.Ground.data }, { on := 4, ground := Go.Ground.guard }], guard := some (4, true) } : Go.Oper)) (v := .bool (decide ((x.1 : Int) ≤ (b' : Int)))) rfl (by kernel_rfl) (by kernel_rfl) (by kernel_rfl) (fun _ _ _ h => h) (Or.inl ⟨by rfl, ?_⟩) (by assumption) ?_
      · intro wx hSw
        try dsimp only at hSw
        have u0 := hSw.1
        have u1 := hSw.2
        go_simp
        try with_reducible rfl
      try simp only [Act.put, List.setIfInBounds_toArray, List.set_cons_zero, List.set_cons_succ]
      refine wpAnyH_take (i := 13) (oi := ({ dst := some 29, op := Go.Op.pick (Go.Operand.tmp 20) (Go.Operand.tmp 28) (Go.Operand.const (Go.Value.bool false)), type := 4, pos := "sendq.go:145", after := #[{ on := 4, ground := Go.Ground.data }, { on := 12, ground := Go.Ground.data }], guard := none } : Go.Oper)) (v := .bool (decide ((x.1 : Int) ≤ (b' : Int)))) rfl (by kernel_rfl) (by kernel_rfl) (by kernel_rfl) (fun _ _ _ h => h) (Or.inl ⟨by rfl, ?_⟩) (by assumption) ?_
      · intro wx hSw
        try dsimp only at hSw
        have u0 := hSw.1
        have u1 := hSw.2
        go_simp
        try with_reducible rfl
      try simp only [Act.put, List.setIfInBounds_toArray, List.set_cons_zero, List.set_cons_succ]
      refine wpAnyH_done (by kernel_rfl) ?_ _
      have bd : Below wr.heap.size wr wr.drew := (Below.refl _ _).drew
      have HA2 : Hid (At wr.drew z0 (HV a' b')) := HA.out.later bd
      have HRL2 : Hid (PO wr.drew R (.slice (some ⟨g, 0, none⟩) ps.length c) ps) := row_later HRL.out bd
      have HB2 : Hid (Below z0 w wr.drew) := HBW.out.trans (bd.mono (Nat.le_of_lt hzr))
      have hzd : z0 < wr.drew.heap.size := hzr
      clear bd HA HRL HBW r0 r1 c0a c0b c1a c1b
      generalize wr.drew = wd at *
      obtain ⟨r0, r1⟩ := PO.cell HRL2.out HX.out
      obtain ⟨c0a, c0b⟩ := HA2.out.2 0 _ rfl
      obtain ⟨c1a, c1b⟩ := HA2.out.2 1 _ rfl
      by_cases hle : x.1 ≤ b'
      · have hleI : (x.1 : Int) ≤ (b' : Int) := by omega
        have hmn : min (a' : Int) (x.1 : Int) = ((min a' x.1 : Nat) : Int) := by omega
        have hmxx : max (b' : Int) (x.2 : Int) = ((max b' x.2 : Nat) : Int) := by omega
        have HMN : Hid (min (a' : Int) (x.1 : Int) = ((min a' x.1 : Nat) : Int)) := hmn
        have HMX : Hid (max (b' : Int) (x.2 : Int) = ((max b' x.2 : Nat) : Int)) := hmxx
        clear hmn hmxx
        go_upto_region 4 with fail
        refine wp_region_held_drew (S := (fun W => W.cell? ⟨g, j * 2, none⟩ = some (.int .i64 (x.1 : Int)) ∧ W.cell? ⟨g, j * 2 + 1, none⟩ = some (.int .i64 (x.2 : Int)))) (by kernel_rfl) ?_ (fun hHeld => ?_)
        · first | exact ⟨r0, r1⟩ | assumption
        refine wpAnyH_take (i := 0) (oi := ({ dst := some 30, op := Go.Op.fieldAddr 58 (Go.Operand.tmp 3) 0, type := 0, pos := "sendq.go:146", after := #[], guard := none } : Go.Oper)) (v := .pointer (some ⟨z0, 0, none⟩)) rfl (by kernel_rfl) (by kernel_rfl) (by kernel_rfl) (fun _ _ _ h => h) (Or.inl ⟨by rfl, ?_⟩) (by assumption) ?_
        · intro wx hSw
          try dsimp only at hSw
          have u0 := hSw.1
          have u1 := hSw.2
          go_simp
          try with_reducible rfl
        try simp only [Act.put, List.setIfInBounds_toArray, List.set_cons_zero, List.set_cons_succ]
        refine wpAnyH_take (i := 2) (oi := ({ dst := some 32, op := Go.Op.move (Go.Operand.tmp 0), type := 51, pos := "sendq.go:146", after := #[], guard := none } : Go.Oper)) (v := .slice (some ⟨g, 0, none⟩) ps.length c) rfl (by kernel_rfl) (by kernel_rfl) (by kernel_rfl) (fun _ _ _ h => h) (Or.inl ⟨by rfl, ?_⟩) (by assumption) ?_
        · intro wx hSw
          try dsimp only at hSw
          have u0 := hSw.1
          have u1 := hSw.2
          go_simp
          try with_reducible rfl
        try simp only [Act.put, List.setIfInBounds_toArray, List.set_cons_zero, List.set_cons_succ]
        refine wpAnyH_take (i := 3) (oi := ({ dst := some 33, op := Go.Op.move (Go.Operand.tmp 7), type := 3, pos := "sendq.go:146", after := #[], guard := none } : Go.Oper)) (v := .int .i64 (j : Int)) rfl (by kernel_rfl) (by kernel_rfl) (by kernel_rfl) (fun _ _ _ h => h) (Or.inl ⟨by rfl, ?_⟩) (by assumption) ?_
        · intro wx hSw
          try dsimp only at hSw
          have u0 := hSw.1
          have u1 := hSw.2
          go_simp
          try with_reducible rfl
        try simp only [Act.put, List.setIfInBounds_toArray, List.set_cons_zero, List.set_cons_succ]
        refine wpAnyH_take (i := 4) (oi := ({ dst := some 34, op := Go.Op.indexAddr 51 (Go.Operand.tmp 32) (Go.Operand.tmp 33), type := 0, pos := "sendq.go:146", after := #[{ on := 2, ground := Go.Ground.data }, { on := 3, ground := Go.Ground.data }], guard := none } : Go.Oper)) (v := .pointer (some ⟨g, j * 2, none⟩)) rfl (by kernel_rfl) (by kernel_rfl) (by kernel_rfl) (fun _ _ _ h => h) (Or.inl ⟨by rfl, ?_⟩) (by assumption) ?_
        · intro wx hSw
          try dsimp only at hSw
          have u0 := hSw.1
          have u1 := hSw.2
          go_simp
          try with_reducible rfl
        try simp only [Act.put, List.setIfInBounds_toArray, List.set_cons_zero, List.set_cons_succ]
        refine wpAnyH_take (i := 5) (oi := ({ dst := some 35, op := Go.Op.fieldAddr 58 (Go.Operand.tmp 34) 0, type := 0, pos := "sendq.go:146", after := #[{ on := 4, ground := Go.Ground.data }], guard := none } : Go.Oper)) (v := .pointer (some ⟨g, j * 2, none⟩)) rfl (by kernel_rfl) (by kernel_rfl) (by kernel_rfl) (fun _ _ _ h => h) (Or.inl ⟨by rfl, ?_⟩) (by assumption) ?_
        · intro wx hSw
          try dsimp only at hSw
          have u0 := hSw.1
          have u1 := hSw.2
          go_simp
          try with_reducible rfl
        try simp only [Act.put, List.setIfInBounds_toArray, List.set_cons_zero, List.set_cons_succ]
        refine wpAnyH_take (i := 6) (oi := ({ dst := some 36, op := Go.Op.load 3 (Go.Operand.tmp 35), type := 3, pos := "sendq.go:146", after := #[{ on := 5, ground := Go.Ground.data }], guard := none } : Go.Oper)) (v := .int .i64 (x.1 : Int)) rfl (by kernel_rfl) (by kernel_rfl) (by kernel_rfl) (fun _ _ _ h => h) (Or.inl ⟨by rfl, ?_⟩) (by assumption) ?_
        · intro wx hSw
          try dsimp only at hSw
          have u0 := hSw.1
          have u1 := hSw.2
          go_simp
          try with_reducible rfl
        try simp only [Act.put, List.setIfInBounds_toArray, List.set_cons_zero, List.set_cons_succ]
        refine wpAnyH_take (i := 8) (oi := ({ dst := some 38, op := Go.Op.fieldAddr 58 (Go.Operand.tmp 3) 1, type := 0, pos := "sendq.go:146", after := #[], guard := none } : Go.Oper)) (v := .pointer (some ⟨z0, 1, none⟩)) rfl (by kernel_rfl) (by kernel_rfl) (by kernel_rfl) (fun _ _ _ h => h) (Or.inl ⟨by rfl, ?_⟩) (by assumption) ?_
        · intro wx hSw
          try dsimp only at hSw
          have u0 := hSw.1
          have u1 := hSw.2
          go_simp
          try with_reducible rfl
        try simp only [Act.put, List.setIfInBounds_toArray, List.set_cons_zero, List.set_cons_succ]
        refine wpAnyH_take (i := 10) (oi := ({ dst := some 40, op := Go.Op.move (Go.Operand.tmp 0), type := 51, pos := "sendq.go:146", after := #[], guard := none } : Go.Oper)) (v := .slice (some ⟨g, 0, none⟩) ps.length c) rfl (by kernel_rfl) (by kernel_rfl) (by kernel_rfl) (fun _ _ _ h => h) (Or.inl ⟨by rfl, ?_⟩) (by assumption) ?_
        · intro wx hSw
          try dsimp only at hSw
          have u0 := hSw.1
          have u1 := hSw.2
          go_simp
          try with_reducible rfl
        try simp only [Act.put, List.setIfInBounds_toArray, List.set_cons_zero, List.set_cons_succ]
        refine wpAnyH_take (i := 11) (oi := ({ dst := some 41, op := Go.Op.move (Go.Operand.tmp 7), type := 3, pos := "sendq.go:146", after := #[], guard := none } : Go.Oper)) (v := .int .i64 (j : Int)) rfl (by kernel_rfl) (by kernel_rfl) (by kernel_rfl) (fun _ _ _ h => h) (Or.inl ⟨by rfl, ?_⟩) (by assumption) ?_
        · intro wx hSw
          try dsimp only at hSw
          have u0 := hSw.1
          have u1 := hSw.2
          go_simp
          try with_reducible rfl
        try simp only [Act.put, List.setIfInBounds_toArray, List.set_cons_zero, List.set_cons_succ]
        refine wpAnyH_take (i := 12) (oi := ({ dst := some 42, op := Go.Op.indexAddr 51 (Go.Operand.tmp 40) (Go.Operand.tmp 41), type := 0, pos := "sendq.go:146", after := #[{ on := 10, ground := Go.Ground.data }, { on := 11, ground := Go.Ground.data }], guard := none } : Go.Oper)) (v := .pointer (some ⟨g, j * 2, none⟩)) rfl (by kernel_rfl) (by kernel_rfl) (by kernel_rfl) (fun _ _ _ h => h) (Or.inl ⟨by rfl, ?_⟩) (by assumption) ?_
        · intro wx hSw
          try dsimp only at hSw
          have u0 := hSw.1
          have u1 := hSw.2
          go_simp
          try with_reducible rfl
        try simp only [Act.put, List.setIfInBounds_toArray, List.set_cons_zero, List.set_cons_succ]
        refine wpAnyH_take (i := 13) (oi := ({ dst := some 43, op := Go.Op.fieldAddr 58 (Go.Operand.tmp 42) 1, type := 0, pos := "sendq.go:146", after := #[{ on := 12, ground := Go.Ground.data }], guard := none } : Go.Oper)) (v := .pointer (some ⟨g, j * 2 + 1, none⟩)) rfl (by kernel_rfl) (by kernel_rfl) (by kernel_rfl) (fun _ _ _ h => h) (Or.inl ⟨by rfl, ?_⟩) (by assumption) ?_
        · intro wx hSw
          try dsimp only at hSw
          have u0 := hSw.1
          have u1 := hSw.2
          go_simp
          try with_reducible rfl
        try simp only [Act.put, List.setIfInBounds_toArray, List.set_cons_zero, List.set_cons_succ]
        refine wpAnyH_take (i := 14) (oi := ({ dst := some 44, op := Go.Op.load 3 (Go.Operand.tmp 43), type := 3, pos := "sendq.go:146", after := #[{ on := 13, ground := Go.Ground.data }], guard := none } : Go.Oper)) (v := .int .i64 (x.2 : Int)) rfl (by kernel_rfl) (by kernel_rfl) (by kernel_rfl) (fun _ _ _ h => h) (Or.inl ⟨by rfl, ?_⟩) (by assumption) ?_
        · intro wx hSw
          try dsimp only at hSw
          have u0 := hSw.1
          have u1 := hSw.2
          go_simp
          try with_reducible rfl
        try simp only [Act.put, List.setIfInBounds_toArray, List.set_cons_zero, List.set_cons_succ]
        refine wpAnyH_ready (rs := [1, 9]) (by kernel_rfl) (by simp) ?_
        refine AllReadyH.cons (o := ({ dst := some 31, op := Go.Op.load 3 (Go.Operand.tmp 30), type := 3, pos := "sendq.go:146", after := #[{ on := 0, ground := Go.Ground.data }], guard := none } : Go.Oper)) rfl (fun K hK => ?_) (AllReadyH.cons (o := ({ dst := some 39, op := Go.Op.load 3 (Go.Operand.tmp 38), type := 3, pos := "sendq.go:146", after := #[{ on := 8, ground := Go.Ground.data }], guard := none } : Go.Oper)) rfl (fun K hK => ?_) AllReadyH.nil)
        · have u0 : wd.drew.cell? ⟨z0, 0, none⟩ = some (.int .i64 (a' : Int)) := c0a
          go_simp
          refine hK.out _ _ hHeld (fun hHeld => ?_)
          clear hK K
          try simp only [Act.put, List.setIfInBounds_toArray, List.set_cons_zero, List.set_cons_succ]
          refine wpAnyH_take (i := 7) (oi := ({ dst := some 37, op := Go.Op.call { callee := Go.Callee.builtin Go.Builtin.min, args := #[Go.Operand.tmp 31, Go.Operand.tmp 36], argTypes := #[3, 3] }, type := 3, pos := "sendq.go:146", after := #[{ on := 1, ground := Go.Ground.data }, { on := 6, ground := Go.Ground.data }], guard := none } : Go.Oper)) (v := .int .i64 (min (a' : Int) (x.1 : Int))) rfl (by kernel_rfl) (by kernel_rfl) (by kernel_rfl) (fun _ _ _ h => h) (Or.inl ⟨by rfl, ?_⟩) (by assumption) ?_
          · intro wx hSw
            try dsimp only at hSw
            have u0 := hSw.1
            have u1 := hSw.2
            go_simp
            try with_reducible rfl
          try simp only [Act.put, List.setIfInBounds_toArray, List.set_cons_zero, List.set_cons_succ]
          refine wpAnyH_ready (rs := [9]) (by kernel_rfl) (by simp) ?_
          refine AllReadyH.cons (o := ({ dst := some 39, op := Go.Op.load 3 (Go.Operand.tmp 38), type := 3, pos := "sendq.go:146", after := #[{ on := 8, ground := Go.Ground.data }], guard := none } : Go.Oper)) rfl (fun K hK => ?_) AllReadyH.nil
          · have u0 : wd.drew.cell? ⟨z0, 1, none⟩ = some (.int .i64 (b' : Int)) := c1a
            go_simp
            refine hK.out _ _ hHeld (fun hHeld => ?_)
            clear hK K
            try simp only [Act.put, List.setIfInBounds_toArray, List.set_cons_zero, List.set_cons_succ]
            refine wpAnyH_take (i := 15) (oi := ({ dst := some 45, op := Go.Op.call { callee := Go.Callee.builtin Go.Builtin.max, args := #[Go.Operand.tmp 39, Go.Operand.tmp 44], argTypes := #[3, 3] }, type := 3, pos := "sendq.go:146", after := #[{ on := 9, ground := Go.Ground.data }, { on := 14, ground := Go.Ground.data }], guard := none } : Go.Oper)) (v := .int .i64 (max (b' : Int) (x.2 : Int))) rfl (by kernel_rfl) (by kernel_rfl) (by kernel_rfl) (fun _ _ _ h => h) (Or.inl ⟨by rfl, ?_⟩) (by assumption) ?_
            · intro wx hSw
              try dsimp only at hSw
              have u0 := hSw.1
              have u1 := hSw.2
              go_simp
              try with_reducible rfl
            try simp only [Act.put, List.setIfInBounds_toArray, List.set_cons_zero, List.set_cons_succ]
            refine wpAnyH_take (i := 16) (oi := ({ dst := some 46, op := Go.Op.build 58 #[(0, Go.Operand.tmp 37), (1, Go.Operand.tmp 45)], type := 58, pos := "sendq.go:146", after := #[{ on := 7, ground := Go.Ground.data }, { on := 15, ground := Go.Ground.data }], guard := none } : Go.Oper)) (v := .agg #[.int .i64 (min (a' : Int) (x.1 : Int)), .int .i64 (max (b' : Int) (x.2 : Int))]) rfl (by kernel_rfl) (by kernel_rfl) (by kernel_rfl) (fun _ _ _ h => h) (Or.inl ⟨by rfl, ?_⟩) (by assumption) ?_
            · intro wx hSw
              try dsimp only at hSw
              have u0 := hSw.1
              have u1 := hSw.2
              go_simp
              try with_reducible rfl
            try simp only [Act.put, List.setIfInBounds_toArray, List.set_cons_zero, List.set_cons_succ]
            refine wpAnyH_ready (rs := [17]) (by kernel_rfl) (by simp) ?_
            refine AllReadyH.cons (o := ({ dst := none, op := Go.Op.store 58 (Go.Operand.tmp 3) (Go.Operand.tmp 46), type := 0, pos := "sendq.go:146", after := #[{ on := 16, ground := Go.Ground.data }, { on := 0, ground := Go.Ground.phase }, { on := 1, ground := Go.Ground.phase }, { on := 2, ground := Go.Ground.phase }, { on := 3, ground := Go.Ground.phase }, { on := 4, ground := Go.Ground.phase }, { on := 5, ground := Go.Ground.phase }, { on := 6, ground := Go.Ground.phase }, { on := 7, ground := Go.Ground.phase }, { on := 8, ground := Go.Ground.phase }, { on := 9, ground := Go.Ground.phase }, { on := 10, ground := Go.Ground.phase }, { on := 11, ground := Go.Ground.phase }, { on := 12, ground := Go.Ground.phase }, { on := 13, ground := Go.Ground.phase }, { on := 14, ground := Go.Ground.phase }, { on := 15, ground := Go.Ground.phase }, { on := 16, ground := Go.Ground.phase }], guard := none } : Go.Oper)) rfl (fun K hK => ?_) AllReadyH.nil
            · have u0 : wd.drew.cell? ⟨z0, 0, none⟩ = some (.int .i64 (a' : Int)) := c0a
              have u1 : wd.drew.cell? ⟨z0, 1, none⟩ = some (.int .i64 (b' : Int)) := c1a
              have f0 : wd.drew.frozen? ⟨z0, 0, none⟩ = false := c0b
              have f1 : wd.drew.frozen? ⟨z0, 1, none⟩ = false := c1b
              go_simp
              refine hK.out _ _ ⟨(World.cell?_setCell_other _ _ _ _ (by intro e; injection e with e; omega)).trans ((World.cell?_setCell_other _ _ _ _ (by intro e; injection e with e; omega)).trans r0), (World.cell?_setCell_other _ _ _ _ (by intro e; injection e with e; omega)).trans ((World.cell?_setCell_other _ _ _ _ (by intro e; injection e with e; omega)).trans r1)⟩ (fun hHeld => ?_)
              clear hK K
              try simp only [Act.put, List.setIfInBounds_toArray, List.set_cons_zero, List.set_cons_succ]
              refine wpAnyH_done (by kernel_rfl) ?_ _
              have ts : Turn (fun k => k = z0) wd ((wd.setCell ⟨z0, 0, none⟩ (.int .i64 ((min a' x.1 : Nat) : Int))).setCell ⟨z0, 1, none⟩ (.int .i64 ((max b' x.2 : Nat) : Int))).drew := ((turn_set wd.drew z0 0 (.int .i64 ((min a' x.1 : Nat) : Int))).trans (turn_set _ z0 1 (.int .i64 ((max b' x.2 : Nat) : Int)))).undrew
              have HN3 : Hid (At ((wd.setCell ⟨z0, 0, none⟩ (.int .i64 ((min a' x.1 : Nat) : Int))).setCell ⟨z0, 1, none⟩ (.int .i64 ((max b' x.2 : Nat) : Int))).drew z0 (HV (min a' x.1) (max b' x.2)) ∧ Below z0 w ((wd.setCell ⟨z0, 0, none⟩ (.int .i64 ((min a' x.1 : Nat) : Int))).setCell ⟨z0, 1, none⟩ (.int .i64 ((max b' x.2 : Nat) : Int))).drew ∧ WI N ps p i (j + 1) (min a' x.1) (max b' x.2)) := ⟨((HA2.out.set 0 _).set 1 _).later (Below.refl _ _).drew, HB2.out.trans (ts.below (by omega) (fun k hk e => by omega)), HWI.out.step HP.out HX.out hle⟩
              rw [HMN.out, HMX.out]
              clear ts
              generalize ((wd.setCell ⟨z0, 0, none⟩ (.int .i64 ((min a' x.1 : Nat) : Int))).setCell ⟨z0, 1, none⟩ (.int .i64 ((max b' x.2 : Nat) : Int))).drew = we at *
              go_wp2
              go_roundw
              case rel => exact ⟨j + 1, _, _, by first | rfl | simp, HN3⟩
              case measure => simp [RowKit.intOf]; omega
        · have u0 : wd.drew.cell? ⟨z0, 1, none⟩ = some (.int .i64 (b' : Int)) := c1a
          go_simp
          refine hK.out _ _ hHeld (fun hHeld => ?_)
          clear hK K
          try simp only [Act.put, List.setIfInBounds_toArray, List.set_cons_zero, List.set_cons_succ]
          refine wpAnyH_take (i := 15) (oi := ({ dst := some 45, op := Go.Op.call { callee := Go.Callee.builtin Go.Builtin.max, args := #[Go.Operand.tmp 39, Go.Operand.tmp 44], argTypes := #[3, 3] }, type := 3, pos := "sendq.go:146", after := #[{ on := 9, ground := Go.Ground.data }, { on := 14, ground := Go.Ground.data }], guard := none } : Go.Oper)) (v := .int .i64 (max (b' : Int) (x.2 : Int))) rfl (by kernel_rfl) (by kernel_rfl) (by kernel_rfl) (fun _ _ _ h => h) (Or.inl ⟨by rfl, ?_⟩) (by assumption) ?_
          · intro wx hSw
            try dsimp only at hSw
            have u0 := hSw.1
            have u1 := hSw.2
            go_simp
            try with_reducible rfl
          try simp only [Act.put, List.setIfInBounds_toArray, List.set_cons_zero, List.set_cons_succ]
          refine wpAnyH_ready (rs := [1]) (by kernel_rfl) (by simp) ?_
          refine AllReadyH.cons (o := ({ dst := some 31, op := Go.Op.load 3 (Go.Operand.tmp 30), type := 3, pos := "sendq.go:146", after := #[{ on := 0, ground := Go.Ground.data }], guard := none } : Go.Oper)) rfl (fun K hK => ?_) AllReadyH.nil
          · have u0 : wd.drew.cell? ⟨z0, 0, none⟩ = some (.int .i64 (a' : Int)) := c0a
            go_simp
            refine hK.out _ _ hHeld (fun hHeld => ?_)
            clear hK K
            try simp only [Act.put, List.setIfInBounds_toArray, List.set_cons_zero, List.set_cons_succ]
            refine wpAnyH_take (i := 7) (oi := ({ dst := some 37, op := Go.Op.call { callee := Go.Callee.builtin Go.Builtin.min, args := #[Go.Operand.tmp 31, Go.Operand.tmp 36], argTypes := #[3, 3] }, type := 3, pos := "sendq.go:146", after := #[{ on := 1, ground := Go.Ground.data }, { on := 6, ground := Go.Ground.data }], guard := none } : Go.Oper)) (v := .int .i64 (min (a' : Int) (x.1 : Int))) rfl (by kernel_rfl) (by kernel_rfl) (by kernel_rfl) (fun _ _ _ h => h) (Or.inl ⟨by rfl, ?_⟩) (by assumption) ?_
            · intro wx hSw
              try dsimp only at hSw
              have u0 := hSw.1
              have u1 := hSw.2
              go_simp
              try with_reducible rfl
            try simp only [Act.put, List.setIfInBounds_toArray, List.set_cons_zero, List.set_cons_succ]
            refine wpAnyH_take (i := 16) (oi := ({ dst := some 46, op := Go.Op.build 58 #[(0, Go.Operand.tmp 37), (1, Go.Operand.tmp 45)], type := 58, pos := "sendq.go:146", after := #[{ on := 7, ground := Go.Ground.data }, { on := 15, ground := Go.Ground.data }], guard := none } : Go.Oper)) (v := .agg #[.int .i64 (min (a' : Int) (x.1 : Int)), .int .i64 (max (b' : Int) (x.2 : Int))]) rfl (by kernel_rfl) (by kernel_rfl) (by kernel_rfl) (fun _ _ _ h => h) (Or.inl ⟨by rfl, ?_⟩) (by assumption) ?_
            · intro wx hSw
              try dsimp only at hSw
              have u0 := hSw.1
              have u1 := hSw.2
              go_simp
              try with_reducible rfl
            try simp only [Act.put, List.setIfInBounds_toArray, List.set_cons_zero, List.set_cons_succ]
            refine wpAnyH_ready (rs := [17]) (by kernel_rfl) (by simp) ?_
            refine AllReadyH.cons (o := ({ dst := none, op := Go.Op.store 58 (Go.Operand.tmp 3) (Go.Operand.tmp 46), type := 0, pos := "sendq.go:146", after := #[{ on := 16, ground := Go.Ground.data }, { on := 0, ground := Go.Ground.phase }, { on := 1, ground := Go.Ground.phase }, { on := 2, ground := Go.Ground.phase }, { on := 3, ground := Go.Ground.phase }, { on := 4, ground := Go.Ground.phase }, { on := 5, ground := Go.Ground.phase }, { on := 6, ground := Go.Ground.phase }, { on := 7, ground := Go.Ground.phase }, { on := 8, ground := Go.Ground.phase }, { on := 9, ground := Go.Ground.phase }, { on := 10, ground := Go.Ground.phase }, { on := 11, ground := Go.Ground.phase }, { on := 12, ground := Go.Ground.phase }, { on := 13, ground := Go.Ground.phase }, { on := 14, ground := Go.Ground.phase }, { on := 15, ground := Go.Ground.phase }, { on := 16, ground := Go.Ground.phase }], guard := none } : Go.Oper)) rfl (fun K hK => ?_) AllReadyH.nil
            · have u0 : wd.drew.cell? ⟨z0, 0, none⟩ = some (.int .i64 (a' : Int)) := c0a
              have u1 : wd.drew.cell? ⟨z0, 1, none⟩ = some (.int .i64 (b' : Int)) := c1a
              have f0 : wd.drew.frozen? ⟨z0, 0, none⟩ = false := c0b
              have f1 : wd.drew.frozen? ⟨z0, 1, none⟩ = false := c1b
              go_simp
              refine hK.out _ _ ⟨(World.cell?_setCell_other _ _ _ _ (by intro e; injection e with e; omega)).trans ((World.cell?_setCell_other _ _ _ _ (by intro e; injection e with e; omega)).trans r0), (World.cell?_setCell_other _ _ _ _ (by intro e; injection e with e; omega)).trans ((World.cell?_setCell_other _ _ _ _ (by intro e; injection e with e; omega)).trans r1)⟩ (fun hHeld => ?_)
              clear hK K
              try simp only [Act.put, List.setIfInBounds_toArray, List.set_cons_zero, List.set_cons_succ]
              refine wpAnyH_done (by kernel_rfl) ?_ _
              have ts : Turn (fun k => k = z0) wd ((wd.setCell ⟨z0, 0, none⟩ (.int .i64 ((min a' x.1 : Nat) : Int))).setCell ⟨z0, 1, none⟩ (.int .i64 ((max b' x.2 : Nat) : Int))).drew := ((turn_set wd.drew z0 0 (.int .i64 ((min a' x.1 : Nat) : Int))).trans (turn_set _ z0 1 (.int .i64 ((max b' x.2 : Nat) : Int)))).undrew
              have HN3 : Hid (At ((wd.setCell ⟨z0, 0, none⟩ (.int .i64 ((min a' x.1 : Nat) : Int))).setCell ⟨z0, 1, none⟩ (.int .i64 ((max b' x.2 : Nat) : Int))).drew z0 (HV (min a' x.1) (max b' x.2)) ∧ Below z0 w ((wd.setCell ⟨z0, 0, none⟩ (.int .i64 ((min a' x.1 : Nat) : Int))).setCell ⟨z0, 1, none⟩ (.int .i64 ((max b' x.2 : Nat) : Int))).drew ∧ WI N ps p i (j + 1) (min a' x.1) (max b' x.2)) := ⟨((HA2.out.set 0 _).set 1 _).later (Below.refl _ _).drew, HB2.out.trans (ts.below (by omega) (fun k hk e => by omega)), HWI.out.step HP.out HX.out hle⟩
              rw [HMN.out, HMX.out]
              clear ts
              generalize ((wd.setCell ⟨z0, 0, none⟩ (.int .i64 ((min a' x.1 : Nat) : Int))).setCell ⟨z0, 1, none⟩ (.int .i64 ((max b' x.2 : Nat) : Int))).drew = we at *
              go_wp2
              go_roundw
              case rel => exact ⟨j + 1, _, _, by first | rfl | simp, HN3⟩
              case measure => simp [RowKit.intOf]; omega
      · have hleI : ¬ (x.1 : Int) ≤ (b' : Int) := by omega
        have he : ∀ y, ps[j]? = some y → b' < y.1 := fun y hy => by have e := HX.out; rw [hy] at e; cases e; omega
        have HE : Hid (∀ y, ps[j]? = some y → b' < y.1) := he
        clear he
        have bq := bel1 wd (.cells (HV a' b') 58)
        have hV : (wd.alloc (.cells (HV a' b') 58)).heap[wd.heap.size]? = some (.cells (HV a' b') 58 (0, 0)) := heap_alloc_new wd _
        have hcon := rep_any ps (a', b') (wd.alloc (.cells (HV a' b') 58)) (.slice (some ⟨g, 0, none⟩) ps.length c) R wd.heap.size i j (row_later HRL2.out bq) hV (fun k hk e => by have := (row_kd HRL2.out k hk).2.lt; omega) (hR.up (by have := bq.size; omega)) (by omega) HWI.out.ij (by omega)
        have HTN : Hid (Turn (fun k => (Value.slice (some ⟨g, 0, none⟩) ps.length c).ownBlock = some k) w (wd.alloc (.cells (HV a' b') 58))) := Turn.of_below (by rw [hz0]; exact HB2.out.trans (bq.mono (by omega)))
        go_wp2_with fail
        refine hcon.mono ?_
        rintro e w5 ⟨v', rfl, k1, k2⟩
        have HD := HWI.out.done HP.out HE.out
        go_wp2
        go_ret
        exact ⟨v', _, rfl, k1, HD.1, HD.2, HTN.out.trans k2⟩
    · have hltI : ¬ (j : Int) < (ps.length : Int) := by omega
      have he : ∀ y, ps[j]? = some y → b' < y.1 := fun y hy => absurd (List.getElem?_eq_some_iff.1 hy).1 hlt
      have HA : Hid (At wr z0 (HV a' b')) := hA
      have HBW : Hid (Below z0 w wr) := hB
      have HWI : Hid (WI N ps p i j a' b') := hW
      have HRL : Hid (PO wr R (.slice a ps.length c) ps) := hrl
      clear hA hB hW HI hz2 hrl
      go_upto_region 3 with fail
      refine wp_region_held_drew (S := (fun _ => True)) (by kernel_rfl) ?_ (fun hHeld => ?_)
      · first | exact trivial | assumption
      refine wpAnyH_take (i := 0) (oi := ({ dst := some 16, op := Go.Op.move (Go.Operand.tmp 7), type := 3, pos := "sendq.go:145", after := #[], guard := none } : Go.Oper)) (v := .int .i64 (j : Int)) rfl (by kernel_rfl) (by kernel_rfl) (by kernel_rfl) (fun _ _ _ h => h) (Or.inl ⟨by rfl, ?_⟩) (by assumption) ?_
      · intro wx hSw
        try dsimp only at hSw
        go_simp
        try with_reducible rfl
      try simp only [Act.put, List.setIfInBounds_toArray, List.set_cons_zero, List.set_cons_succ]
      refine wpAnyH_take (i := 1) (oi := ({ dst := some 17, op := Go.Op.move (Go.Operand.tmp 0), type := 51, pos := "sendq.go:145", after := #[], guard := none } : Go.Oper)) (v := .slice a ps.length c) rfl (by kernel_rfl) (by kernel_rfl) (by kernel_rfl) (fun _ _ _ h => h) (Or.inl ⟨by rfl, ?_⟩) (by assumption) ?_
      · intro wx hSw
        try dsimp only at hSw
        go_simp
        try with_reducible rfl
      try simp only [Act.put, List.setIfInBounds_toArray, List.set_cons_zero, List.set_cons_succ]
      refine wpAnyH_take (i := 2) (oi := ({ dst := some 18, op := Go.Op.call { callee := Go.Callee.builtin Go.Builtin.len, args := #[Go.Operand.tmp 17], argTypes := #[51] }, type := 3, pos := "sendq.go:145", after := #[{ on := 1, ground := Go.Ground.data }], guard := none } : Go.Oper)) (v := .int .i64 (ps.length : Int)) rfl (by kernel_rfl) (by kernel_rfl) (by kernel_rfl) (fun _ _ _ h => h) (Or.inl ⟨by rfl, ?_⟩) (by assumption) ?_
      · intro wx hSw
        try dsimp only at hSw
        go_simp
        try with_reducible rfl
      try simp only [Act.put, List.setIfInBounds_toArray, List.set_cons_zero, List.set_cons_succ]
      refine wpAnyH_take (i := 3) (oi := ({ dst := some 19, op := Go.Op.binOp Go.BinOp.lss 3 (Go.Operand.tmp 16) (Go.Operand.tmp 18) 3, type := 4, pos := "sendq.go:145", after := #[{ on := 0, ground := Go.Ground.data }, { on := 2, ground := Go.Ground.data }], guard := none } : Go.Oper)) (v := .bool false) rfl (by kernel_rfl) (by kernel_rfl) (by kernel_rfl) (fun _ _ _ h => h) (Or.inl ⟨by rfl, ?_⟩) (by assumption) ?_
      · intro wx hSw
        try dsimp only at hSw
        go_simp
        try with_reducible rfl
      try simp only [Act.put, List.setIfInBounds_toArray, List.set_cons_zero, List.set_cons_succ]
      refine wpAnyH_take (i := 4) (oi := ({ dst := some 20, op := Go.Op.move (Go.Operand.tmp 19), type := 4, pos := "sendq.go:145", after := #[{ on := 3, ground := Go.Ground.data }], guard := none } : Go.Oper)) (v := .bool false) rfl (by kernel_rfl) (by kernel_rfl) (by kernel_rfl) (fun _ _ _ h => h) (Or.inl ⟨by rfl, ?_⟩) (by assumption) ?_
      · intro wx hSw
        try dsimp only at hSw
        go_simp
        try with_reducible rfl
      try simp only [Act.put, List.setIfInBounds_toArray, List.set_cons_zero, List.set_cons_succ]
      refine wpAnyH_take (i := 5) (oi := ({ dst := some 21, op := Go.Op.move (Go.Operand.tmp 0), type := 51, pos := "sendq.go:145", after := #[{ on := 4, ground := Go.Ground.guard }], guard := some (4, true) } : Go.Oper)) (v := undef) rfl (by kernel_rfl) (by kernel_rfl) (by kernel_rfl) (fun _ _ _ h => h) (Or.inr ⟨by rfl, rfl⟩) (by assumption) ?_
      try simp only [Act.put, List.setIfInBounds_toArray, List.set_cons_zero, List.set_cons_succ]
      refine wpAnyH_take (i := 6) (oi := ({ dst := some 22, op := Go.Op.move (Go.Operand.tmp 7), type := 3, pos := "sendq.go:145", after := #[{ on := 4, ground := Go.Ground.guard }], guard := some (4, true) } : Go.Oper)) (v := undef) rfl (by kernel_rfl) (by kernel_rfl) (by kernel_rfl) (fun _ _ _ h => h) (Or.inr ⟨by rfl, rfl⟩) (by assumption) ?_
      try simp only [Act.put, List.setIfInBounds_toArray, List.set_cons_zero, List.set_cons_succ]
      refine wpAnyH_take (i := 7) (oi := ({ dst := some 23, op := Go.Op.indexAddr 51 (Go.Operand.tmp 21) (Go.Operand.tmp 22), type := 0, pos := "sendq.go:145", after := #[{ on := 5, ground := Go.Ground.data }, { on := 6, ground := Go.Ground.data }, { on := 4, ground := Go.Ground.guard }], guard := some (4, true) } : Go.Oper)) (v := undef) rfl (by kernel_rfl) (by kernel_rfl) (by kernel_rfl) (fun _ _ _ h => h) (Or.inr ⟨by rfl, rfl⟩) (by assumption) ?_
      try simp only [Act.put, List.setIfInBounds_toArray, List.set_cons_zero, List.set_cons_succ]
      refine wpAnyH_take (i := 8) (oi := ({ dst := some 24, op := Go.Op.fieldAddr 58 (Go.Operand.tmp 23) 0, type := 0, pos := "sendq.go:145", after := #[{ on := 7, ground := Go.Ground.data }, { on := 4, ground := Go.Ground.guard }], guard := some (4, true) } : Go.Oper)) (v := undef) rfl (by kernel_rfl) (by kernel_rfl) (by kernel_rfl) (fun _ _ _ h => h) (Or.inr ⟨by rfl, rfl⟩) (by assumption) ?_
      try simp only [Act.put, List.setIfInBounds_toArray, List.set_cons_zero, List.set_cons_succ]
      refine wpAnyH_take (i := 9) (oi := ({ dst := some 25, op := Go.Op.load 3 (Go.Operand.tmp 24), type := 3, pos := "sendq.go:145", after := #[{ on := 8, ground := Go.Ground.data }, { on := 4, ground := Go.Ground.guard }], guard := some (4, true) } : Go.Oper)) (v := undef) rfl (by kernel_rfl) (by kernel_rfl) (by kernel_rfl) (fun _ _ _ h => h) (Or.inr ⟨by rfl, rfl⟩) (by assumption) ?_
      try simp only [Act.put, List.setIfInBounds_toArray, List.set_cons_zero, List.set_cons_succ]
      refine wpAnyH_take (i := 10) (oi := ({ dst := some 26, op := Go.Op.fieldAddr 58 (Go.Operand.tmp 3) 1, type := 0, pos := "sendq.go:145", after := #[{ on := 4, ground := Go.Ground.guard }], guard := some (4, true) } : Go.Oper)) (v := undef) rfl (by kernel_rfl) (by kernel_rfl) (by kernel_rfl) (fun _ _ _ h => h) (Or.inr ⟨by rfl, rfl⟩) (by assumption) ?_
      try simp only [Act.put, List.setIfInBounds_toArray, List.set_cons_zero, List.set_cons_succ]
      refine wpAnyH_take (i := 11) (oi := ({ dst := some 27, op := Go.Op.load 3 (Go.Operand.tmp 26), type := 3, pos := "sendq.go:145", after := #[{ on := 10, ground := Go.Ground.data }, { on := 4, ground := Go.Ground.guard }], guard := some (4, true) } : Go.Oper)) (v := undef) rfl (by kernel_rfl) (by kernel_rfl) (by kernel_rfl) (fun _ _ _ h => h) (Or.inr ⟨by rfl, rfl⟩) (by assumption) ?_
      try simp only [Act.put, List.setIfInBounds_toArray, List.set_cons_zero, List.set_cons_succ]
      refine wpAnyH_take (i := 12) (oi := ({ dst := some 28, op := Go.Op.binOp Go.BinOp.leq 3 (Go.Operand.tmp 25) (Go.Operand.tmp 27) 3, type := 4, pos := "sendq.go:145", after := #[{ on := 9, ground := Go.Ground.data }, { on := 11, ground := Go.Ground.data }, { on := 4, ground := Go.Ground.guard }], guard := some (4, true) } : Go.Oper)) (v := undef) rfl (by kernel_rfl) (by kernel_rfl) (by kernel_rfl) (fun _ _ _ h => h) (Or.inr ⟨by rfl, rfl⟩) (by assumption) ?_
      try simp only [Act.put, List.setIfInBounds_toArray, List.set_cons_zero, List.set_cons_succ]
      refine wpAnyH_take (i := 13) (oi := ({ dst := some 29, op := Go.Op.pick (Go.Operand.tmp 20) (Go.Operand.tmp 28) (Go.Operand.const (Go.Value.bool false)), type := 4, pos := "sendq.go:145", after := #[{ on := 4, ground := Go.Ground.data }, { on := 12, ground := Go.Ground.data }], guard := none } : Go.Oper)) (v := .bool false) rfl (by kernel_rfl) (by kernel_rfl) (by kernel_rfl) (fun _ _ _ h => h) (Or.inl ⟨by rfl, ?_⟩) (by assumption) ?_
      · intro wx hSw
        try dsimp only at hSw
        go_simp
        try with_reducible rfl
      try simp only [Act.put, List.setIfInBounds_toArray, List.set_cons_zero, List.set_cons_succ]
      refine wpAnyH_done (by kernel_rfl) ?_ _
      have bd : Below wr.heap.size wr wr.drew := (Below.refl _ _).drew
      have HA2 : Hid (At wr.drew z0 (HV a' b')) := HA.out.later bd
      have HRL2 : Hid (PO wr.drew R (.slice a ps.length c) ps) := row_later HRL.out bd
      have HB2 : Hid (Below z0 w wr.drew) := HBW.out.trans (bd.mono (Nat.le_of_lt hzr))
      have hzd : z0 < wr.drew.heap.size := hzr
      clear bd HA HRL HBW
      generalize wr.drew = wd at *
      obtain ⟨c0a, c0b⟩ := HA2.out.2 0 _ rfl
      obtain ⟨c1a, c1b⟩ := HA2.out.2 1 _ rfl
      have HE : Hid (∀ y, ps[j]? = some y → b' < y.1) := he
      clear he
      have bq := bel1 wd (.cells (HV a' b') 58)
      have hV : (wd.alloc (.cells (HV a' b') 58)).heap[wd.heap.size]? = some (.cells (HV a' b') 58 (0, 0)) := heap_alloc_new wd _
      have hcon := rep_any ps (a', b') (wd.alloc (.cells (HV a' b') 58)) (.slice a ps.length c) R wd.heap.size i j (row_later HRL2.out bq) hV (fun k hk e => by have := (row_kd HRL2.out k hk).2.lt; omega) (hR.up (by have := bq.size; omega)) (by omega) HWI.out.ij (by omega)
      have HTN : Hid (Turn (fun k => (Value.slice a ps.length c).ownBlock = some k) w (wd.alloc (.cells (HV a' b') 58))) := Turn.of_below (by rw [hz0]; exact HB2.out.trans (bq.mono (by omega)))
      go_wp2_with fail
      refine hcon.mono ?_
      rintro e w5 ⟨v', rfl, k1, k2⟩
      have HD := HWI.out.done HP.out HE.out
      go_wp2
      go_ret
      exact ⟨v', _, rfl, k1, HD.1, HD.2, HTN.out.trans k2⟩
end Go.Proofs.Ytkclookpdngkoaa.S
