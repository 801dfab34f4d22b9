/- Apart. -/
import Derived.Test.YtkclookpdngkoaaVh
namespace Go.Proofs.Ytkclookpdngkoaa.V
open Go.RowKit Go.Maps Go.Lib
set_option maxRecDepth 100000
set_option linter.unusedVariables false
set_option linter.unusedSimpArgs false


def apartL (Q : Rq) (most : Int) : List Rg := ((strL (offs Q)).take most.toNat).map (numR Q.next)
theorem num_same {next : Int} {a b : Nat} (ha : a ≤ 65536) (hb : b ≤ 65536) : ((next + (a : Int)) % 4294967296 == (next + (b : Int)) % 4294967296) = decide (a = b) := by
  by_cases h : a = b
  · subst h; simp
  · rw [decide_eq_false h, beq_eq_false_iff_ne]; omega
theorem ints_cell {w : World} {base g : Nat} {n c : Nat} {zs : List Int} (h : Ints w base (.slice (some ⟨g, 0, none⟩) n c) zs) {j : Nat} {z : Int} (hj : zs[j]? = some z) : w.cell? ⟨g, j, none⟩ = some (.int .i64 z) := by
  have := h.cells (g := g) rfl j (.int .i64 z) (by rw [List.getElem?_map, hj]; rfl)
  rw [Addr.add_mid] at this
  simpa using this
theorem ints_shape {w : World} {base : Nat} {v : Value} {zs : List Int} (h : Ints w base v zs) : ∃ a c, v = .slice a zs.length c ∧ (∀ A, a = some A → ∃ g, A = ⟨g, 0, none⟩) ∧ (a = none → zs = []) := by
  rcases h.2 with ⟨rfl, h0⟩ | ⟨g, cap, cur, rfl, hg, hb, h1, h2⟩
  · rw [h0]; exact ⟨none, 0, rfl, (fun A e => by cases e), fun _ => List.length_eq_zero_iff.1 h0⟩
  · exact ⟨some ⟨g, 0, none⟩, cap, rfl, (fun A e => by cases e; exact ⟨g, rfl⟩), (fun e => by cases e)⟩
set_option maxHeartbeats 2000000 in
theorem apart_any {w : World} {A : Bk} {q : Nat} {Q : Rq} (hX : QX w A q Q) (hf : Q.Fine) (most : Int) :
    Calls Try.prog 12 #[PQ q, .int .i64 most] w fun e w' => ∃ v, e = .returned v ∧ RO w' w.heap.size v (apartL Q most) ∧ Below w.heap.size w w' := by
  have n0 := hf.n0
  have n1 := hf.n1
  have r1 := hf.r1
  have hpl := places_any hX hf
  have hc1 : ∀ W, Below w.heap.size w W → W.cell? ⟨q, 1, none⟩ = some (.int .i64 Q.next) := by
    obtain ⟨M, v, l, h⟩ := hX
    exact fun W hW => later hW (h.at4.2 1 _ rfl).1
  clear hX
  have hplt : ∀ p ∈ offs Q, p < 65536 := fun p hp => by have := (offs_lt hp).1; omega
  have hfin : ∀ i, i = (offs Q).length → (strL ((offs Q).take i)).length ≤ most.toNat → (strL ((offs Q).take i)).map (numR Q.next) = apartL Q most := by
    intro i hi hl
    subst hi
    rw [List.take_length] at hl ⊢
    unfold apartL
    rw [List.take_of_length_le hl]
  have hstop : ∀ i p, (offs Q)[i]? = some p → (∀ e, (strL ((offs Q).take i)).getLast? = some e → e.2 ≠ p) → (strL ((offs Q).take i)).length = most.toNat → (strL ((offs Q).take i)).map (numR Q.next) = apartL Q most := by
    intro i p hp hn hl
    obtain ⟨r, hr⟩ := str_stop hp hn
    unfold apartL
    rw [hr, ← hl, List.take_left]
  have hbd : ∀ i, ∀ e ∈ strL ((offs Q).take i), e.1 < e.2 ∧ e.2 ≤ 65536 := fun i => fold_bd _ (by simp) (fun p hp => hplt p (List.mem_of_mem_take hp))
  have hln : ∀ i, (strL ((offs Q).take i)).length ≤ 65536 := by
    intro i
    have h1 := fold_len ((offs Q).take i) []
    have h2 : (offs Q).length ≤ Q.room := by
      unfold offs
      refine Nat.le_trans (List.length_filter_le _ _) ?_
      rw [List.length_range]; exact Nat.le_refl _
    rw [List.length_take] at h1
    simp at h1
    unfold strL
    omega
  have hsn : ∀ i p, (offs Q)[i]? = some p → strL ((offs Q).take (i + 1)) = snoc (strL ((offs Q).take i)) p := fun i p h => take_snoc h
  have hpm : ∀ i p, (offs Q)[i]? = some p → p < 65536 := fun i p h => hplt p (List.mem_of_getElem? h)
  have hpol : (offs Q).length ≤ 65536 := by
    unfold offs
    refine Nat.le_trans (List.length_filter_le _ _) ?_
    rw [List.length_range]; exact r1
  generalize offs Q = ps at *
  clear hplt
  go_enter Try.func12, Try.ntmps12
  go_wp2_with fail
  refine hpl.mono ?_
  rintro e wp ⟨vp, rfl, hI, hbp⟩
  obtain ⟨ap, cp, rfl, hap, hap0⟩ := ints_shape hI
  have hil : (offI ps).length = ps.length := by unfold offI; rw [List.length_map]
  rw [hil] at hI ⊢
  have HIL : Hid ((offI ps).length = ps.length) := hil
  clear hil hpl
  go_wp2_with fail
  try go_frame
  go_loopw [5, 14] (fun s5 s14 wr => ∃ (i : Nat), i ≤ ps.length ∧ s14 = .int .i64 (i : Int) ∧ RO wr wp.heap.size s5 ((strL (ps.take i)).map (numR Q.next)) ∧ (strL (ps.take i)).length ≤ most.toNat ∧ Below wp.heap.size wp wr) (fun _ s14 _ => ps.length - (RowKit.intOf s14).toNat)
  case atStart => exact ⟨0, Nat.zero_le _, rfl, by rw [List.take_zero]; exact RO.nil _ _, by simp [strL], Below.refl _ _⟩
  case round =>
    obtain ⟨i, hi, rfl, hR, hm, hb⟩ := hrel
    have hbw : Below w.heap.size w wr := hbp.trans (hb.mono hbp.size)
    by_cases hlt : i < ps.length
    · obtain ⟨p, hp⟩ : ∃ p, ps[i]? = some p := ⟨_, List.getElem?_eq_getElem hlt⟩
      have hp1 := hpm i p hp
      obtain ⟨A0, rfl⟩ : ∃ A0, ap = some A0 := by
        cases ap with
        | some A0 => exact ⟨A0, rfl⟩
        | none =>
          have := congrArg List.length (hap0 rfl)
          rw [HIL.out, List.length_nil] at this; omega
      obtain ⟨gp, rfl⟩ := hap _ rfl
      have hcell : wr.cell? ⟨gp, i, none⟩ = some (.int .i64 (p : Int)) := by
        have := ints_cell hI (j := i) (z := (p : Int)) (by unfold offI; rw [List.getElem?_map, hp]; rfl)
        exact (hb.cell (World.block_lt_of_cell? _ _ this)).trans this
      have hd1 : ∀ W, Below wr.heap.size wr W → W.cell? ⟨q, 1, none⟩ = some (.int .i64 Q.next) := fun W hW => hc1 W (bt hbw hW)
      have hnum1 := fun W => number_any Q.next p W n0 n1 (by omega)
      have hnum2 := fun W => number_any Q.next (p + 1) W n0 n1 (by omega)
      rw [show ((p + 1 : Nat) : Int) = (p : Int) + 1 by omega] at hnum2
      obtain ⟨fr, hfr⟩ : ∃ x, x = (Q.next + (p : Int)) % 4294967296 := ⟨_, rfl⟩
      obtain ⟨tt, hto⟩ : ∃ x, x = (Q.next + ((p : Int) + 1)) % 4294967296 := ⟨_, rfl⟩
      rw [← hfr] at hnum1
      rw [← hto] at hnum2
      have HF : Hid (fr = (Q.next + (p : Int)) % 4294967296) := hfr
      have HT : Hid (tt = (Q.next + ((p : Int) + 1)) % 4294967296) := hto
      have HP : Hid (ps[i]? = some p) := hp
      have hwp : IntKind.i64.wrap ((p : Int) + 1) = (p : Int) + 1 := by rw [IntKind.wrap_i64] <;> omega
      clear hfr hto hp
      go_upto_region 5 with fail
      refine wp_region_held_drew (S := (fun W => Below wr.heap.size wr W)) (by kernel_rfl) ?_ (fun hHeld => ?_)
      · first | exact (Below.refl _ _).drew | assumption
      refine wpAnyH_take (i := 0) (oi := ({ dst := some 18, op := Go.Op.move (Go.Operand.tmp 0), type := 28, pos := "recvq.go:63", after := #[], guard := none } : Go.Oper)) (v := .pointer (some ⟨q, 0, none⟩)) rfl (by kernel_rfl) (by kernel_rfl) (by kernel_rfl) (fun _ _ _ h => h) (Or.inl ⟨by rfl, ?_⟩) (by assumption) ?_
      · intro wx hSw
        try dsimp only at hSw
        have u1 := hd1 wx hSw
        go_simp
        try with_reducible rfl
      try simp only [Act.put, List.setIfInBounds_toArray, List.set_cons_zero, List.set_cons_succ]
      refine wpAnyH_take (i := 1) (oi := ({ dst := some 19, op := Go.Op.nilCheck (Go.Operand.tmp 18), type := 0, pos := "recvq.go:63", after := #[{ on := 0, ground := Go.Ground.data }], guard := none } : Go.Oper)) (v := .pointer (some ⟨q, 0, none⟩)) rfl (by kernel_rfl) (by kernel_rfl) (by kernel_rfl) (fun _ _ _ h => h) (Or.inl ⟨by rfl, ?_⟩) (by assumption) ?_
      · intro wx hSw
        try dsimp only at hSw
        have u1 := hd1 wx hSw
        go_simp
        try with_reducible rfl
      try simp only [Act.put, List.setIfInBounds_toArray, List.set_cons_zero, List.set_cons_succ]
      refine wpAnyH_take (i := 2) (oi := ({ dst := some 20, op := Go.Op.fieldAddr 56 (Go.Operand.tmp 19) 1, type := 0, pos := "recvq.go:63", after := #[{ on := 1, ground := Go.Ground.data }], guard := none } : Go.Oper)) (v := .pointer (some ⟨q, 1, none⟩)) rfl (by kernel_rfl) (by kernel_rfl) (by kernel_rfl) (fun _ _ _ h => h) (Or.inl ⟨by rfl, ?_⟩) (by assumption) ?_
      · intro wx hSw
        try dsimp only at hSw
        have u1 := hd1 wx hSw
        go_simp
        try with_reducible rfl
      try simp only [Act.put, List.setIfInBounds_toArray, List.set_cons_zero, List.set_cons_succ]
      refine wpAnyH_take (i := 3) (oi := ({ dst := some 21, op := Go.Op.load 3 (Go.Operand.tmp 20), type := 3, pos := "recvq.go:63", after := #[{ on := 2, ground := Go.Ground.data }], guard := none } : Go.Oper)) (v := .int .i64 Q.next) rfl (by kernel_rfl) (by kernel_rfl) (by kernel_rfl) (fun _ _ _ h => h) (Or.inl ⟨by rfl, ?_⟩) (by assumption) ?_
      · intro wx hSw
        try dsimp only at hSw
        have u1 := hd1 wx hSw
        go_simp
        try with_reducible rfl
      try simp only [Act.put, List.setIfInBounds_toArray, List.set_cons_zero, List.set_cons_succ]
      refine wpAnyH_take (i := 4) (oi := ({ dst := some 22, op := Go.Op.move (Go.Operand.tmp 7), type := 3, pos := "recvq.go:63", after := #[], guard := none } : Go.Oper)) (v := .int .i64 (p : Int)) rfl (by kernel_rfl) (by kernel_rfl) (by kernel_rfl) (fun _ _ _ h => h) (Or.inl ⟨by rfl, ?_⟩) (by assumption) ?_
      · intro wx hSw
        try dsimp only at hSw
        have u1 := hd1 wx hSw
        go_simp
        try with_reducible rfl
      try simp only [Act.put, List.setIfInBounds_toArray, List.set_cons_zero, List.set_cons_succ]
      refine wpAnyH_take (i := 6) (oi := ({ dst := some 24, op := Go.Op.move (Go.Operand.tmp 0), type := 28, pos := "recvq.go:63", after := #[], guard := none } : Go.Oper)) (v := .pointer (some ⟨q, 0, none⟩)) rfl (by kernel_rfl) (by kernel_rfl) (by kernel_rfl) (fun _ _ _ h => h) (Or.inl ⟨by rfl, ?_⟩) (by assumption) ?_
      · intro wx hSw
        try dsimp only at hSw
        have u1 := hd1 wx hSw
        go_simp
        try with_reducible rfl
      try simp only [Act.put, List.setIfInBounds_toArray, List.set_cons_zero, List.set_cons_succ]
      refine wpAnyH_take (i := 7) (oi := ({ dst := some 25, op := Go.Op.nilCheck (Go.Operand.tmp 24), type := 0, pos := "recvq.go:63", after := #[{ on := 6, ground := Go.Ground.data }], guard := none } : Go.Oper)) (v := .pointer (some ⟨q, 0, none⟩)) rfl (by kernel_rfl) (by kernel_rfl) (by kernel_rfl) (fun _ _ _ h => h) (Or.inl ⟨by rfl, ?_⟩) (by assumption) ?_
      · intro wx hSw
        try dsimp only at hSw
        have u1 := hd1 wx hSw
        go_simp
        try with_reducible rfl
      try simp only [Act.put, List.setIfInBounds_toArray, List.set_cons_zero, List.set_cons_succ]
      refine wpAnyH_take (i := 8) (oi := ({ dst := some 26, op := Go.Op.fieldAddr 56 (Go.Operand.tmp 25) 1, type := 0, pos := "recvq.go:63", after := #[{ on := 7, ground := Go.Ground.data }], guard := none } : Go.Oper)) (v := .pointer (some ⟨q, 1, none⟩)) rfl (by kernel_rfl) (by kernel_rfl) (by kernel_rfl) (fun _ _ _ h => h) (Or.inl ⟨by rfl, ?_⟩) (by assumption) ?_
      · intro wx hSw
        try dsimp only at hSw
        have u1 := hd1 wx hSw
        go_simp
        try with_reducible rfl
      try simp only [Act.put, List.setIfInBounds_toArray, List.set_cons_zero, List.set_cons_succ]
      refine wpAnyH_take (i := 9) (oi := ({ dst := some 27, op := Go.Op.load 3 (Go.Operand.tmp 26), type := 3, pos := "recvq.go:63", after := #[{ on := 8, ground := Go.Ground.data }], guard := none } : Go.Oper)) (v := .int .i64 Q.next) rfl (by kernel_rfl) (by kernel_rfl) (by kernel_rfl) (fun _ _ _ h => h) (Or.inl ⟨by rfl, ?_⟩) (by assumption) ?_
      · intro wx hSw
        try dsimp only at hSw
        have u1 := hd1 wx hSw
        go_simp
        try with_reducible rfl
      try simp only [Act.put, List.setIfInBounds_toArray, List.set_cons_zero, List.set_cons_succ]
      refine wpAnyH_take (i := 10) (oi := ({ dst := some 28, op := Go.Op.move (Go.Operand.tmp 7), type := 3, pos := "recvq.go:63", after := #[], guard := none } : Go.Oper)) (v := .int .i64 (p : Int)) rfl (by kernel_rfl) (by kernel_rfl) (by kernel_rfl) (fun _ _ _ h => h) (Or.inl ⟨by rfl, ?_⟩) (by assumption) ?_
      · intro wx hSw
        try dsimp only at hSw
        have u1 := hd1 wx hSw
        go_simp
        try with_reducible rfl
      try simp only [Act.put, List.setIfInBounds_toArray, List.set_cons_zero, List.set_cons_succ]
      refine wpAnyH_take (i := 11) (oi := ({ dst := some 29, op := Go.Op.binOp Go.BinOp.add 3 (Go.Operand.tmp 28) (Go.Operand.const (Go.Value.int Go.IntKind.i64 1)) 3, type := 3, pos := "recvq.go:63", after := #[{ on := 10, ground := Go.Ground.data }], guard := none } : Go.Oper)) (v := .int .i64 ((p : Int) + 1)) rfl (by kernel_rfl) (by kernel_rfl) (by kernel_rfl) (fun _ _ _ h => h) (Or.inl ⟨by rfl, ?_⟩) (by assumption) ?_
      · intro wx hSw
        try dsimp only at hSw
        have u1 := hd1 wx hSw
        go_simp
        try with_reducible rfl
      try simp only [Act.put, List.setIfInBounds_toArray, List.set_cons_zero, List.set_cons_succ]
      refine wpAnyH_ready (rs := [5]) (by kernel_rfl) (by simp) ?_
      refine AllReadyH.cons (o := ({ dst := some 23, op := Go.Op.call { callee := Go.Callee.value (Go.Operand.func 23), args := #[Go.Operand.tmp 21, Go.Operand.tmp 22], argTypes := #[3, 3] }, type := 3, pos := "recvq.go:63", after := #[{ on := 3, ground := Go.Ground.data }, { on := 4, ground := Go.Ground.data }], guard := none } : Go.Oper)) rfl (fun K hK => ?_) AllReadyH.nil
      go_simp
      refine (hnum1 _).mono ?_
      rintro e wk ⟨rfl, rfl⟩
      refine hK.out _ _ hHeld (fun hHeld => ?_)
      clear hK K
      try simp only [Act.put, List.setIfInBounds_toArray, List.set_cons_zero, List.set_cons_succ]
      refine wpAnyH_ready (rs := [12]) (by kernel_rfl) (by simp) ?_
      refine AllReadyH.cons (o := ({ dst := some 30, op := Go.Op.call { callee := Go.Callee.value (Go.Operand.func 23), args := #[Go.Operand.tmp 27, Go.Operand.tmp 29], argTypes := #[3, 3] }, type := 3, pos := "recvq.go:63", after := #[{ on := 9, ground := Go.Ground.data }, { on := 11, ground := Go.Ground.data }, { on := 5, ground := Go.Ground.chain }], guard := none } : Go.Oper)) rfl (fun K hK => ?_) AllReadyH.nil
      go_simp
      refine (hnum2 _).mono ?_
      rintro e wk ⟨rfl, rfl⟩
      refine hK.out _ _ hHeld (fun hHeld => ?_)
      clear hK K
      try simp only [Act.put, List.setIfInBounds_toArray, List.set_cons_zero, List.set_cons_succ]
      refine wpAnyH_take (i := 13) (oi := ({ dst := some 8, op := Go.Op.assign (Go.Operand.tmp 23), type := 3, pos := "recvq.go:63", after := #[{ on := 5, ground := Go.Ground.data }, { on := 12, ground := Go.Ground.chain }, { on := 0, ground := Go.Ground.phase }, { on := 1, ground := Go.Ground.phase }, { on := 2, ground := Go.Ground.phase }, { on := 3, ground := Go.Ground.phase }, { on := 4, ground := Go.Ground.phase }, { on := 5, ground := Go.Ground.phase }, { on := 6, ground := Go.Ground.textOnly Go.Departure.lateStores }, { on := 7, ground := Go.Ground.textOnly Go.Departure.lateStores }, { on := 8, ground := Go.Ground.textOnly Go.Departure.lateStores }, { on := 9, ground := Go.Ground.textOnly Go.Departure.lateStores }, { on := 10, ground := Go.Ground.textOnly Go.Departure.lateStores }, { on := 11, ground := Go.Ground.textOnly Go.Departure.lateStores }, { on := 12, ground := Go.Ground.textOnly Go.Departure.lateStoresUnsure }], guard := none } : Go.Oper)) (v := .int .i64 fr) rfl (by kernel_rfl) (by kernel_rfl) (by kernel_rfl) (fun _ _ _ h => h) (Or.inl ⟨by rfl, ?_⟩) (by assumption) ?_
      · intro wx hSw
        try dsimp only at hSw
        have u1 := hd1 wx hSw
        go_simp
        try with_reducible rfl
      try simp only [Act.put, List.setIfInBounds_toArray, List.set_cons_zero, List.set_cons_succ]
      refine wpAnyH_take (i := 14) (oi := ({ dst := some 9, op := Go.Op.assign (Go.Operand.tmp 30), type := 3, pos := "recvq.go:63", after := #[{ on := 12, ground := Go.Ground.data }, { on := 13, ground := Go.Ground.chain }, { on := 0, ground := Go.Ground.phase }, { on := 1, ground := Go.Ground.phase }, { on := 2, ground := Go.Ground.phase }, { on := 3, ground := Go.Ground.phase }, { on := 4, ground := Go.Ground.phase }, { on := 5, ground := Go.Ground.phase }, { on := 6, ground := Go.Ground.phase }, { on := 7, ground := Go.Ground.phase }, { on := 8, ground := Go.Ground.phase }, { on := 9, ground := Go.Ground.phase }, { on := 10, ground := Go.Ground.phase }, { on := 11, ground := Go.Ground.phase }, { on := 12, ground := Go.Ground.phase }, { on := 13, ground := Go.Ground.phase }], guard := none } : Go.Oper)) (v := .int .i64 tt) rfl (by kernel_rfl) (by kernel_rfl) (by kernel_rfl) (fun _ _ _ h => h) (Or.inl ⟨by rfl, ?_⟩) (by assumption) ?_
      · intro wx hSw
        try dsimp only at hSw
        have u1 := hd1 wx hSw
        go_simp
        try with_reducible rfl
      try simp only [Act.put, List.setIfInBounds_toArray, List.set_cons_zero, List.set_cons_succ]
      refine wpAnyH_done (by kernel_rfl) ?_ _
      have hRd := hR.later hHeld
      have hbd5 : Below wp.heap.size wp wr.drew := hb.drew
      have hbw5 : Below w.heap.size w wr.drew := hbw.drew
      have hs1 := hstop i p HP.out
      have hbd1 := hbd i
      have hln1 := hln i
      have hsn1 := hsn i p HP.out
      have hnr : numR Q.next (p, p + 1) = (fr, tt) := by
        unfold numR
        rw [HF.out, HT.out]
        show (_, (Q.next + ((p + 1 : Nat) : Int)) % 4294967296) = _
        rw [show ((p + 1 : Nat) : Int) = (p : Int) + 1 by omega]
      generalize strL (ps.take i) = acc at *
      generalize wr.drew = w5 at *
      obtain ⟨al, cl, e5, hal, hal0⟩ := hRd.shape
      rw [List.length_map] at e5
      have hms : most.toNat = most.toNat := rfl
      clear hfin hstop hbd hln hsn hpm hd1 hnum1 hnum2 hms hcell
      have HS1 : Hid ((∀ e, acc.getLast? = some e → e.2 ≠ p) → acc.length = most.toNat → acc.map (numR Q.next) = apartL Q most) := hs1
      have HSN : Hid (strL (ps.take (i + 1)) = snoc acc p) := hsn1
      have HNR : Hid (numR Q.next (p, p + 1) = (fr, tt)) := hnr
      have HM : Hid (acc.length ≤ most.toNat) := hm
      clear hs1 hsn1 hnr hm
      cases hgl : acc.getLast? with
      | none =>
        have hacc : acc = [] := List.getLast?_eq_none_iff.1 hgl
        subst hacc
        subst e5
        clear hgl
        by_cases hmost : most ≤ 0
        · go_wp2
          go_ret
          refine ⟨_, rfl, ?_, hbw5⟩
          have := HS1.out (fun e h => by cases h) (by simp; omega)
          rw [← this]
          exact hRd.low hbp.size
        · obtain ⟨v2, w2, e1, hR2, hb2⟩ := appR hRd hbd5.size (fr, tt) (by simp) 40
          go_wp2_with (first | (at_builtin; refine wpList_append_eq rfl _ _ rfl rfl rfl e1 ?_) | go_in)
          go_roundw
          case rel =>
            refine ⟨i + 1, by omega, by simp, ?_, ?_, hbd5.trans hb2⟩
            · rw [HSN.out]
              show RO w2 _ v2 [numR Q.next (p, p + 1)]
              rw [HNR.out]
              exact hR2
            · rw [HSN.out]
              show 1 ≤ _
              omega
          case measure => first | omega | (simp only [RowKit.intOf]; omega) | (simp [RowKit.intOf]; omega)
      | some ee =>
        have hmem := hbd1 ee (List.mem_of_getLast? hgl)
        have hne : acc ≠ [] := fun e => by rw [e] at hgl; cases hgl
        have hpos := List.length_pos_iff.2 hne
        have hlast : acc[acc.length - 1]? = some ee := by rw [← hgl, List.getLast?_eq_getElem?]
        obtain ⟨gl, rfl⟩ : ∃ gl, al = some ⟨gl, 0, none⟩ := by
          cases al with
          | some A1 => obtain ⟨g, rfl, -⟩ := hal _ rfl; exact ⟨g, rfl⟩
          | none => have := hal0 rfl; simp at this; exact absurd this hne
        subst e5
        have hlm : (acc.map (numR Q.next))[acc.length - 1]? = some (numR Q.next ee) := by rw [List.getElem?_map, hlast]; rfl
        have hcc := (hRd.cell hlm).2
        have hfz := hRd.free ((acc.length - 1) * 2 + 1)
        have hset := hRd.setTo (by rw [List.length_map]) (acc.length - 1) (numR Q.next ee) tt hlm
        have hcmp : ((numR Q.next ee).2 == fr) = decide (ee.2 = p) := by rw [HF.out]; exact num_same hmem.2 (by omega)
        obtain ⟨n, hn⟩ : ∃ n, n = acc.length - 1 := ⟨_, rfl⟩
        have hal1 : acc.length = n + 1 := by omega
        rw [← hn] at hcc hfz hset
        rw [hal1] at hset hRd ⊢
        have hn65 : n ≤ 65536 := by omega
        have HN : Hid (n = acc.length - 1) := hn
        have HAL : Hid (acc.length = n + 1) := hal1
        have HCM : Hid (((numR Q.next ee).2 == fr) = decide (ee.2 = p)) := hcmp
        have HGL : Hid (acc.getLast? = some ee) := hgl
        have hglw : gl < w5.heap.size := World.block_lt_of_cell? _ _ hcc
        have hglp : wp.heap.size ≤ gl := by obtain ⟨g, e, h9⟩ := hal _ rfl; cases e; exact h9
        obtain ⟨t2, ht2⟩ : ∃ x, x = (numR Q.next ee).2 := ⟨_, rfl⟩
        rw [← ht2] at hcc hcmp
        clear hn hal1 hgl hlast hlm hal hal0 hR ht2 hpos
        by_cases hep : ee.2 = p
        · rw [decide_eq_true hep] at hcmp
          have HE : Hid (ee.2 = p) := hep
          clear hep
          go_wp2
          go_roundw
          case rel =>
            refine ⟨i + 1, by omega, by simp, ?_, ?_, ?_⟩
            · rw [HSN.out]
              have h9 : snoc acc p = acc.set n (ee.1, p + 1) := by
                unfold snoc
                rw [HGL.out]
                dsimp only
                rw [if_pos HE.out, ← HN.out]
              rw [h9, List.map_set]
              have h8 : numR Q.next (ee.1, p + 1) = ((numR Q.next ee).1, tt) := by
                have := congrArg Prod.snd HNR.out
                show ((numR Q.next ee).1, (numR Q.next (p, p + 1)).2) = _
                rw [this]
              rw [h8]
              exact hset
            · rw [HSN.out]
              have h9 : snoc acc p = acc.set n (ee.1, p + 1) := by
                unfold snoc
                rw [HGL.out]
                dsimp only
                rw [if_pos HE.out, ← HN.out]
              rw [h9, List.length_set]
              exact HM.out
            · exact hbd5.trans ((turn_set w5 gl (n * 2 + 1) (.int .i64 tt)).below hbd5.size (fun k hk e => by omega))
          case measure => first | omega | (simp only [RowKit.intOf]; omega) | (simp [RowKit.intOf]; omega)
        · rw [decide_eq_false hep] at hcmp
          have HE : Hid (ee.2 ≠ p) := hep
          clear hep hset
          by_cases hmost : most ≤ ((n + 1 : Nat) : Int)
          · have hmo2 : most ≤ (n : Int) + 1 := by omega
            go_wp2
            go_ret
            refine ⟨_, rfl, ?_, hbw5⟩
            have := HS1.out (fun e h => by rw [HGL.out] at h; cases h; exact HE.out) (by have := HM.out; have := HAL.out; omega)
            rw [← this]
            exact hRd.low hbp.size
          · have hmo2 : (n : Int) + 1 < most := by omega
            obtain ⟨v2, w2, e1, hR2, hb2⟩ := appR hRd hbd5.size (fr, tt) (by rw [List.length_map, HAL.out]; omega) 40
            go_wp2_with (first | (at_builtin; refine wpList_append_eq rfl _ _ rfl rfl rfl e1 ?_) | go_in)
            go_roundw
            case rel =>
              have h9 : snoc acc p = acc ++ [(p, p + 1)] := by
                unfold snoc
                rw [HGL.out]
                dsimp only
                rw [if_neg HE.out]
              refine ⟨i + 1, by omega, by simp, ?_, ?_, hbd5.trans hb2⟩
              · rw [HSN.out, h9, List.map_append]
                show RO w2 _ v2 (_ ++ [numR Q.next (p, p + 1)])
                rw [HNR.out]
                exact hR2
              · rw [HSN.out, h9, List.length_append, HAL.out]
                show n + 1 + 1 ≤ _
                omega
            case measure => first | omega | (simp only [RowKit.intOf]; omega) | (simp [RowKit.intOf]; omega)
    · have hie : i = ps.length := by omega
      have h9 := hfin i hie hm
      rw [h9] at hR
      obtain ⟨al, cl, rfl, -⟩ := hR.shape
      go_wp2
      go_ret
      exact ⟨_, rfl, hR.low hbp.size, hbw⟩
end Go.Proofs.Ytkclookpdngkoaa.V
