/- Hole. -/
import Derived.Test.YtkclookpdngkoaaDQh
namespace Go.Proofs.Ytkclookpdngkoaa.S
open Go.RowKit Go.Maps Go.Lib
set_option maxRecDepth 100000
set_option linter.unusedVariables false
set_option linter.unusedSimpArgs false


theorem hole_any {w : World} {R : Bk} {q : Nat} {Q : Qu} {vb vp : Value} (h : QX w R q Q vb vp) (hf : Q.Fine) :
    Calls Try.prog 20 #[PQ q] w fun e w' => e = .returned (.agg (HV (holeL Q).1 (holeL Q).2)) ∧ Below w.heap.size w w' := by
  obtain ⟨room, left, sent, bs, ps⟩ := Q
  match ps, h, hf with
  | [], h, hf => exact hole_nil h hf
  | x :: r, h, hf =>
    by_cases hx : x.1 = 0
    · match r, h, hf with
      | [], h, hf => simpa [holeL, hx] using hole_one h hf hx
      | y :: r', h, hf => simpa [holeL, hx] using hole_two h hf hx
    · simpa [holeL, hx] using hole_from h hf hx
theorem holeL_ok {Q : Qu} (hf : Q.Fine) : (holeL Q).1 ≤ (holeL Q).2 ∧ (holeL Q).2 ≤ Q.sent := by
  obtain ⟨room, left, sent, bs, ps⟩ := Q
  have hok := hf.ok
  dsimp only at hok
  match ps, hok with
  | [], _ => exact ⟨Nat.zero_le _, Nat.le_refl _⟩
  | x :: r, hok =>
    have hx := hok.2 x (List.mem_cons_self ..)
    by_cases hx0 : x.1 = 0
    · match r, hok with
      | [], _ => simp [holeL, hx0]; omega
      | y :: r', hok =>
        have hy := hok.2 y (by simp)
        have hxy := (List.pairwise_cons.1 hok.1).1 y (by simp)
        simp [holeL, hx0]
        omega
    · simp [holeL, hx0]
      omega
def hlN (Q : Qu) (m : Int) : Int := min (((holeL Q).2 : Int) - ((holeL Q).1 : Int)) m
def hlA (Q : Qu) (m : Int) : Int := if hlN Q m < 1 then Q.left else (Q.left + ((holeL Q).1 : Int)) % 4294967296
def hlS (Q : Qu) (m : Int) : List UInt8 := if hlN Q m < 1 then [] else (Q.bs.drop (holeL Q).1).take (hlN Q m).toNat
set_option maxHeartbeats 1000000 in
theorem Hole_any {w : World} {R : Bk} {q : Nat} {Q : Qu} {vb vp : Value} (h : QX w R q Q vb vp) (hf : Q.Fine) (m : Int) :
    Calls Try.prog 11 #[PQ q, .int .i64 m] w fun e w' => e = .returned (.tuple #[.int .i64 (hlA Q m), .string (strB (hlS Q m))]) ∧ Below w.heap.size w w' := by
  have hc := hole_any h hf
  obtain ⟨hk1, hk2⟩ := holeL_ok hf
  unfold hlA hlS
  have HX : Hid (QX w R q Q vb vp) := h
  have hsb : (Q.sent : Int) ≤ 65536 := by have := hf.sn; have := hf.ln; have := hf.r1; omega
  have hbl := hf.sn
  have HN : Hid (min (((holeL Q).2 : Int) - ((holeL Q).1 : Int)) m = hlN Q m) := rfl
  have hnum : ∀ W, Below w.heap.size w W → Calls Try.prog 21 #[PQ q, .int .i64 ((holeL Q).1 : Int)] W fun e w' => e = .returned (.int .i64 ((Q.left + ((holeL Q).1 : Int)) % 4294967296)) ∧ w' = W := fun W hW => number_any (h.later hW) hf _ (by omega)
  obtain ⟨a, c, rfl, h0, hcl, hcz⟩ := h.bo.shape
  have hcv : 1 ≤ hlN Q m → ∀ W, Below w.heap.size w W → (convert 50 9 (.slice (if c = (holeL Q).1 then a else Option.map (fun x => x.add (holeL Q).1) a) (hlN Q m).toNat (c - (holeL Q).1))).run Try.prog W = .ok (.string (strB ((Q.bs.drop (holeL Q).1).take (hlN Q m).toNat))) W := by
    intro hl W hW
    have := conv_bytes h.bo (i := (holeL Q).1) (j := (holeL Q).1 + (hlN Q m).toNat) (by omega) (by have := HN.out; omega) W (fun g hg => hW.block g (row_kd h.bo g hg).2.lt)
    rwa [Nat.add_sub_cancel_left] at this
  clear h0 hcz hf h
  generalize (holeL Q).1 = f at *
  generalize (holeL Q).2 = t at *
  generalize hlN Q m = l at *
  have hwr : IntKind.i64.wrap ((t : Int) - (f : Int)) = (t : Int) - (f : Int) := by rw [IntKind.wrap_i64] <;> omega
  have hft : (f : Int) ≤ 65536 := by omega
  have htt : (t : Int) ≤ 65536 := by omega
  by_cases hlt : l < 1
  · rw [if_pos hlt, if_pos hlt]
    go_enter Try.func11, Try.ntmps11
    go_wp2_with fail
    refine hc.mono ?_
    rintro e w1 ⟨rfl, hb1⟩
    have hX1 := (HX.out.later hb1).later (bel1 w1 (.cells (HV f t) 58))
    have c1 := (hX1.at5.2 1 _ rfl).1
    have hb2 := bt hb1 (bel1 w1 (.cells (HV f t) 58))
    have hlt2 : min ((t : Int) - (f : Int)) m < 1 := by rw [HN.out]; exact hlt
    clear hlt
    go_wp2
    go_ret2
    exact ⟨rfl, hb2⟩
  · rw [if_neg hlt, if_neg hlt]
    have hl1 : 1 ≤ l := by omega
    have hlm : l ≤ (t : Int) - (f : Int) := by have := HN.out; omega
    have hcv := hcv hl1
    go_enter Try.func11, Try.ntmps11
    go_wp2_with fail
    refine hc.mono ?_
    rintro e w1 ⟨rfl, hb1⟩
    have hlt2 : ¬ min ((t : Int) - (f : Int)) m < 1 := by rw [HN.out]; omega
    go_upto_region 5 with fail
    rw [HN.out]
    have hA1 := At.box w1 (HV f t) 58
    have hX1 := (HX.out.later hb1).later (bel1 w1 (.cells (HV f t) 58))
    have hb2 := bt hb1 (bel1 w1 (.cells (HV f t) 58))
    generalize hz1 : w1.heap.size = z1 at hA1 ⊢
    have ew : w1.alloc (Obj.cells #[Value.int .i64 (f : Int), Value.int .i64 (t : Int)] 58) = w1.alloc (.cells (HV f t) 58) := rfl
    try rw [ew]
    clear ew
    generalize w1.alloc (.cells (HV f t) 58) = w2 at *
    have hd3 : ∀ W, Below w2.heap.size w2 W → W.cell? ⟨q, 3, none⟩ = some (.slice a Q.bs.length c) := fun W hW => later hW (hX1.at5.2 3 _ rfl).1
    have hd0 : ∀ W, Below w2.heap.size w2 W → W.cell? ⟨z1, 0, none⟩ = some (.int .i64 (f : Int)) := fun W hW => later hW (hA1.2 0 _ rfl).1
    have hown : ∀ W, Below w2.heap.size w2 W → (convert 50 9 (.slice (if c = f then a else Option.map (fun x => x.add f) a) l.toNat (c - f))).run Try.prog W = .ok (.string (strB ((Q.bs.drop f).take l.toNat))) W := fun W hW => hcv W (bt hb2 hW)
    obtain ⟨ln, hln⟩ : ∃ ln : Nat, l = (ln : Int) := ⟨l.toNat, by omega⟩
    subst hln
    rw [Int.toNat_natCast] at *
    have hw3 : IntKind.i64.wrap ((f : Int) + (ln : Int)) = (f : Int) + (ln : Int) := by rw [IntKind.wrap_i64] <;> omega
    have hfc : f ≤ c := by omega
    have hs1 : (f : Int) + (ln : Int) ≤ (c : Int) := by omega
    have hs2 : (0 : Int) ≤ (f : Int) + (ln : Int) := by omega
    have hs3 : f ≤ ((f : Int) + (ln : Int)).toNat := by omega
    have hs4 : ((f : Int) + (ln : Int)).toNat - f = ln := by omega
    refine wp_region_held_drew (S := (fun W => Below w2.heap.size w2 W)) (by kernel_rfl) ?_ (fun hHeld => ?_)
    · first | exact (Below.refl _ _).drew | assumption
    refine wpAnyH_take (i := 0) (oi := ({ dst := some 23, op := Go.Op.move (Go.Operand.tmp 0), type := 24, pos := "sendq.go:85", after := #[], guard := none } : Go.Oper)) (v := .pointer (some ⟨q, 0, none⟩)) rfl (by kernel_rfl) (by kernel_rfl) (by kernel_rfl) (fun _ _ _ h => h) (Or.inl ⟨by rfl, ?_⟩) (by assumption) ?_
    · intro wx hSw
      try dsimp only at hSw
      have u0 := hd0 wx hSw
      have u3 := hd3 wx hSw
      have u4 := hown wx hSw
      go_simp
      try with_reducible rfl
    try simp only [Act.put, List.setIfInBounds_toArray, List.set_cons_zero, List.set_cons_succ]
    refine wpAnyH_take (i := 1) (oi := ({ dst := some 24, op := Go.Op.fieldAddr 58 (Go.Operand.tmp 6) 0, type := 0, pos := "sendq.go:85", after := #[], guard := none } : Go.Oper)) (v := .pointer (some ⟨z1, 0, none⟩)) rfl (by kernel_rfl) (by kernel_rfl) (by kernel_rfl) (fun _ _ _ h => h) (Or.inl ⟨by rfl, ?_⟩) (by assumption) ?_
    · intro wx hSw
      try dsimp only at hSw
      have u0 := hd0 wx hSw
      have u3 := hd3 wx hSw
      have u4 := hown wx hSw
      go_simp
      try with_reducible rfl
    try simp only [Act.put, List.setIfInBounds_toArray, List.set_cons_zero, List.set_cons_succ]
    refine wpAnyH_take (i := 2) (oi := ({ dst := some 25, op := Go.Op.load 3 (Go.Operand.tmp 24), type := 3, pos := "sendq.go:85", after := #[{ on := 1, ground := Go.Ground.data }], guard := none } : Go.Oper)) (v := .int .i64 (f : Int)) rfl (by kernel_rfl) (by kernel_rfl) (by kernel_rfl) (fun _ _ _ h => h) (Or.inl ⟨by rfl, ?_⟩) (by assumption) ?_
    · intro wx hSw
      try dsimp only at hSw
      have u0 := hd0 wx hSw
      have u3 := hd3 wx hSw
      have u4 := hown wx hSw
      go_simp
      try with_reducible rfl
    try simp only [Act.put, List.setIfInBounds_toArray, List.set_cons_zero, List.set_cons_succ]
    refine wpAnyH_take (i := 4) (oi := ({ dst := some 27, op := Go.Op.move (Go.Operand.tmp 0), type := 24, pos := "sendq.go:85", after := #[], guard := none } : Go.Oper)) (v := .pointer (some ⟨q, 0, none⟩)) rfl (by kernel_rfl) (by kernel_rfl) (by kernel_rfl) (fun _ _ _ h => h) (Or.inl ⟨by rfl, ?_⟩) (by assumption) ?_
    · intro wx hSw
      try dsimp only at hSw
      have u0 := hd0 wx hSw
      have u3 := hd3 wx hSw
      have u4 := hown wx hSw
      go_simp
      try with_reducible rfl
    try simp only [Act.put, List.setIfInBounds_toArray, List.set_cons_zero, List.set_cons_succ]
    refine wpAnyH_take (i := 5) (oi := ({ dst := some 28, op := Go.Op.nilCheck (Go.Operand.tmp 27), type := 0, pos := "sendq.go:85", after := #[{ on := 4, ground := Go.Ground.data }], guard := none } : Go.Oper)) (v := .pointer (some ⟨q, 0, none⟩)) rfl (by kernel_rfl) (by kernel_rfl) (by kernel_rfl) (fun _ _ _ h => h) (Or.inl ⟨by rfl, ?_⟩) (by assumption) ?_
    · intro wx hSw
      try dsimp only at hSw
      have u0 := hd0 wx hSw
      have u3 := hd3 wx hSw
      have u4 := hown wx hSw
      go_simp
      try with_reducible rfl
    try simp only [Act.put, List.setIfInBounds_toArray, List.set_cons_zero, List.set_cons_succ]
    refine wpAnyH_take (i := 6) (oi := ({ dst := some 29, op := Go.Op.fieldAddr 53 (Go.Operand.tmp 28) 3, type := 0, pos := "sendq.go:85", after := #[{ on := 5, ground := Go.Ground.data }], guard := none } : Go.Oper)) (v := .pointer (some ⟨q, 3, none⟩)) rfl (by kernel_rfl) (by kernel_rfl) (by kernel_rfl) (fun _ _ _ h => h) (Or.inl ⟨by rfl, ?_⟩) (by assumption) ?_
    · intro wx hSw
      try dsimp only at hSw
      have u0 := hd0 wx hSw
      have u3 := hd3 wx hSw
      have u4 := hown wx hSw
      go_simp
      try with_reducible rfl
    try simp only [Act.put, List.setIfInBounds_toArray, List.set_cons_zero, List.set_cons_succ]
    refine wpAnyH_take (i := 7) (oi := ({ dst := some 30, op := Go.Op.load 50 (Go.Operand.tmp 29), type := 50, pos := "sendq.go:85", after := #[{ on := 6, ground := Go.Ground.data }], guard := none } : Go.Oper)) (v := .slice a Q.bs.length c) rfl (by kernel_rfl) (by kernel_rfl) (by kernel_rfl) (fun _ _ _ h => h) (Or.inl ⟨by rfl, ?_⟩) (by assumption) ?_
    · intro wx hSw
      try dsimp only at hSw
      have u0 := hd0 wx hSw
      have u3 := hd3 wx hSw
      have u4 := hown wx hSw
      go_simp
      try with_reducible rfl
    try simp only [Act.put, List.setIfInBounds_toArray, List.set_cons_zero, List.set_cons_succ]
    refine wpAnyH_take (i := 8) (oi := ({ dst := some 31, op := Go.Op.fieldAddr 58 (Go.Operand.tmp 6) 0, type := 0, pos := "sendq.go:85", after := #[], guard := none } : Go.Oper)) (v := .pointer (some ⟨z1, 0, none⟩)) rfl (by kernel_rfl) (by kernel_rfl) (by kernel_rfl) (fun _ _ _ h => h) (Or.inl ⟨by rfl, ?_⟩) (by assumption) ?_
    · intro wx hSw
      try dsimp only at hSw
      have u0 := hd0 wx hSw
      have u3 := hd3 wx hSw
      have u4 := hown wx hSw
      go_simp
      try with_reducible rfl
    try simp only [Act.put, List.setIfInBounds_toArray, List.set_cons_zero, List.set_cons_succ]
    refine wpAnyH_take (i := 9) (oi := ({ dst := some 32, op := Go.Op.load 3 (Go.Operand.tmp 31), type := 3, pos := "sendq.go:85", after := #[{ on := 8, ground := Go.Ground.data }], guard := none } : Go.Oper)) (v := .int .i64 (f : Int)) rfl (by kernel_rfl) (by kernel_rfl) (by kernel_rfl) (fun _ _ _ h => h) (Or.inl ⟨by rfl, ?_⟩) (by assumption) ?_
    · intro wx hSw
      try dsimp only at hSw
      have u0 := hd0 wx hSw
      have u3 := hd3 wx hSw
      have u4 := hown wx hSw
      go_simp
      try with_reducible rfl
    try simp only [Act.put, List.setIfInBounds_toArray, List.set_cons_zero, List.set_cons_succ]
    refine wpAnyH_take (i := 10) (oi := ({ dst := some 33, op := Go.Op.fieldAddr 58 (Go.Operand.tmp 6) 0, type := 0, pos := "sendq.go:85", after := #[], guard := none } : Go.Oper)) (v := .pointer (some ⟨z1, 0, none⟩)) rfl (by kernel_rfl) (by kernel_rfl) (by kernel_rfl) (fun _ _ _ h => h) (Or.inl ⟨by rfl, ?_⟩) (by assumption) ?_
    · intro wx hSw
      try dsimp only at hSw
      have u0 := hd0 wx hSw
      have u3 := hd3 wx hSw
      have u4 := hown wx hSw
      go_simp
      try with_reducible rfl
    try simp only [Act.put, List.setIfInBounds_toArray, List.set_cons_zero, List.set_cons_succ]
    refine wpAnyH_take (i := 11) (oi := ({ dst := some 34, op := Go.Op.load 3 (Go.Operand.tmp 33), type := 3, pos := "sendq.go:85", after := #[{ on := 10, ground := Go.Ground.data }], guard := none } : Go.Oper)) (v := .int .i64 (f : Int)) rfl (by kernel_rfl) (by kernel_rfl) (by kernel_rfl) (fun _ _ _ h => h) (Or.inl ⟨by rfl, ?_⟩) (by assumption) ?_
    · intro wx hSw
      try dsimp only at hSw
      have u0 := hd0 wx hSw
      have u3 := hd3 wx hSw
      have u4 := hown wx hSw
      go_simp
      try with_reducible rfl
    try simp only [Act.put, List.setIfInBounds_toArray, List.set_cons_zero, List.set_cons_succ]
    refine wpAnyH_take (i := 12) (oi := ({ dst := some 35, op := Go.Op.move (Go.Operand.tmp 7), type := 3, pos := "sendq.go:85", after := #[], guard := none } : Go.Oper)) (v := .int .i64 (ln : Int)) rfl (by kernel_rfl) (by kernel_rfl) (by kernel_rfl) (fun _ _ _ h => h) (Or.inl ⟨by rfl, ?_⟩) (by assumption) ?_
    · intro wx hSw
      try dsimp only at hSw
      have u0 := hd0 wx hSw
      have u3 := hd3 wx hSw
      have u4 := hown wx hSw
      go_simp
      try with_reducible rfl
    try simp only [Act.put, List.setIfInBounds_toArray, List.set_cons_zero, List.set_cons_succ]
    refine wpAnyH_take (i := 13) (oi := ({ dst := some 36, op := Go.Op.binOp Go.BinOp.add 3 (Go.Operand.tmp 34) (Go.Operand.tmp 35) 3, type := 3, pos := "sendq.go:85", after := #[{ on := 11, ground := Go.Ground.data }, { on := 12, ground := Go.Ground.data }], guard := none } : Go.Oper)) (v := .int .i64 ((f : Int) + (ln : Int))) rfl (by kernel_rfl) (by kernel_rfl) (by kernel_rfl) (fun _ _ _ h => h) (Or.inl ⟨by rfl, ?_⟩) (by assumption) ?_
    · intro wx hSw
      try dsimp only at hSw
      have u0 := hd0 wx hSw
      have u3 := hd3 wx hSw
      have u4 := hown wx hSw
      go_simp
      try with_reducible rfl
    try simp only [Act.put, List.setIfInBounds_toArray, List.set_cons_zero, List.set_cons_succ]
    refine wpAnyH_take (i := 14) (oi := ({ dst := some 37, op := Go.Op.slice 50 (Go.Operand.tmp 30) (some (Go.Operand.tmp 32)) (some (Go.Operand.tmp 36)) none, type := 50, pos := "sendq.go:85", after := #[{ on := 7, ground := Go.Ground.data }, { on := 9, ground := Go.Ground.data }, { on := 13, ground := Go.Ground.data }], guard := none } : Go.Oper)) (v := .slice (if c = f then a else Option.map (fun x => x.add f) a) ln (c - f)) rfl (by kernel_rfl) (by kernel_rfl) (by kernel_rfl) (fun _ _ _ h => h) (Or.inl ⟨by rfl, ?_⟩) (by assumption) ?_
    · intro wx hSw
      try dsimp only at hSw
      have u0 := hd0 wx hSw
      have u3 := hd3 wx hSw
      have u4 := hown wx hSw
      go_simp
      try with_reducible rfl
    try simp only [Act.put, List.setIfInBounds_toArray, List.set_cons_zero, List.set_cons_succ]
    refine wpAnyH_take (i := 15) (oi := ({ dst := some 38, op := Go.Op.convert 50 9 (Go.Operand.tmp 37), type := 9, pos := "sendq.go:85", after := #[{ on := 14, ground := Go.Ground.data }, { on := 16, ground := Go.Ground.gcOnly Go.Departure.lateStores }], guard := none } : Go.Oper)) (v := .string (strB ((Q.bs.drop f).take ln))) rfl (by kernel_rfl) (by kernel_rfl) (by kernel_rfl) (fun _ _ _ h => h) (Or.inl ⟨by rfl, ?_⟩) (by assumption) ?_
    · intro wx hSw
      try dsimp only at hSw
      have u0 := hd0 wx hSw
      have u3 := hd3 wx hSw
      have u4 := hown wx hSw
      go_simp
      try with_reducible rfl
    try simp only [Act.put, List.setIfInBounds_toArray, List.set_cons_zero, List.set_cons_succ]
    refine wpAnyH_ready (rs := [3]) (by kernel_rfl) (by simp) ?_
    refine AllReadyH.cons (o := ({ dst := some 26, op := Go.Op.call { callee := Go.Callee.value (Go.Operand.func 21), args := #[Go.Operand.tmp 23, Go.Operand.tmp 25], argTypes := #[24, 3] }, type := 3, pos := "sendq.go:85", after := #[{ on := 0, ground := Go.Ground.data }, { on := 2, ground := Go.Ground.data }], guard := none } : Go.Oper)) rfl (fun K hK => ?_) AllReadyH.nil
    go_simp
    refine (hnum _ (bt hb2 hHeld)).mono ?_
    rintro e wk ⟨rfl, rfl⟩
    refine hK.out _ _ hHeld (fun hHeld => ?_)
    clear hK K
    try simp only [Act.put, List.setIfInBounds_toArray, List.set_cons_zero, List.set_cons_succ]
    refine wpAnyH_take (i := 16) (oi := ({ dst := some 4, op := Go.Op.assign (Go.Operand.tmp 26), type := 3, pos := "sendq.go:85", after := #[{ on := 3, ground := Go.Ground.data }, { on := 3, ground := Go.Ground.chain }, { on := 0, ground := Go.Ground.phase }, { on := 1, ground := Go.Ground.phase }, { on := 2, ground := Go.Ground.phase }, { on := 3, ground := Go.Ground.phase }, { on := 4, ground := Go.Ground.textOnly Go.Departure.lateStores }, { on := 5, ground := Go.Ground.textOnly Go.Departure.lateStores }, { on := 6, ground := Go.Ground.textOnly Go.Departure.lateStores }, { on := 7, ground := Go.Ground.textOnly Go.Departure.lateStores }, { on := 8, ground := Go.Ground.textOnly Go.Departure.lateStores }, { on := 9, ground := Go.Ground.textOnly Go.Departure.lateStores }, { on := 10, ground := Go.Ground.textOnly Go.Departure.lateStores }, { on := 11, ground := Go.Ground.textOnly Go.Departure.lateStores }, { on := 12, ground := Go.Ground.textOnly Go.Departure.lateStores }, { on := 13, ground := Go.Ground.textOnly Go.Departure.lateStores }, { on := 14, ground := Go.Ground.textOnly Go.Departure.lateStoresUnsure }, { on := 15, ground := Go.Ground.textOnly Go.Departure.lateStores }], guard := none } : Go.Oper)) (v := .int .i64 ((Q.left + (f : Int)) % 4294967296)) rfl (by kernel_rfl) (by kernel_rfl) (by kernel_rfl) (fun _ _ _ h => h) (Or.inl ⟨by rfl, ?_⟩) (by assumption) ?_
    · intro wx hSw
      try dsimp only at hSw
      have u0 := hd0 wx hSw
      have u3 := hd3 wx hSw
      have u4 := hown wx hSw
      go_simp
      try with_reducible rfl
    try simp only [Act.put, List.setIfInBounds_toArray, List.set_cons_zero, List.set_cons_succ]
    refine wpAnyH_take (i := 17) (oi := ({ dst := some 5, op := Go.Op.assign (Go.Operand.tmp 38), type := 9, pos := "sendq.go:85", after := #[{ on := 15, ground := Go.Ground.data }, { on := 16, ground := Go.Ground.chain }, { on := 0, ground := Go.Ground.phase }, { on := 1, ground := Go.Ground.phase }, { on := 2, ground := Go.Ground.phase }, { on := 3, ground := Go.Ground.phase }, { on := 4, ground := Go.Ground.phase }, { on := 5, ground := Go.Ground.phase }, { on := 6, ground := Go.Ground.phase }, { on := 7, ground := Go.Ground.phase }, { on := 8, ground := Go.Ground.phase }, { on := 9, ground := Go.Ground.phase }, { on := 10, ground := Go.Ground.phase }, { on := 11, ground := Go.Ground.phase }, { on := 12, ground := Go.Ground.phase }, { on := 13, ground := Go.Ground.phase }, { on := 14, ground := Go.Ground.phase }, { on := 15, ground := Go.Ground.phase }, { on := 16, ground := Go.Ground.phase }], guard := none } : Go.Oper)) (v := .string (strB ((Q.bs.drop f).take ln))) rfl (by kernel_rfl) (by kernel_rfl) (by kernel_rfl) (fun _ _ _ h => h) (Or.inl ⟨by rfl, ?_⟩) (by assumption) ?_
    · intro wx hSw
      try dsimp only at hSw
      have u0 := hd0 wx hSw
      have u3 := hd3 wx hSw
      have u4 := hown wx hSw
      go_simp
      try with_reducible rfl
    try simp only [Act.put, List.setIfInBounds_toArray, List.set_cons_zero, List.set_cons_succ]
    refine wpAnyH_done (by kernel_rfl) ?_ _
    generalize Value.slice (if c = f then a else Option.map (fun x => x.add f) a) ln (c - f) = vx
    go_wp2
    go_ret2
    exact ⟨rfl, bt hb2 hHeld⟩
end Go.Proofs.Ytkclookpdngkoaa.S
