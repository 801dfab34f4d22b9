/- The document's Add of a log that adds. -/
import Derived.Test.YtgjkplkghoeeeaaEh
namespace Go.Proofs.Ytgjkplkghoeeeaa
open Go.RowKit Go.Maps
set_option maxRecDepth 100000
set_option linter.unusedVariables false
set_option linter.unusedSimpArgs false


theorem cloneE {D W : World} {R e1 n : Nat} {v : Value} {l : List Ev} (hz : Below n D W) (hn : D.heap.size = n) (hE : EO D R v l) (he : n ≤ e1) (hC : EO W n (.slice (some ⟨e1, 0, none⟩) 0 0) []) (hl : l.length ≤ 1000000) (ty : TypeId) :
    ∃ c6 w6, (Builtin.append_ #[29, 29] ty #[.slice (some ⟨e1, 0, none⟩) 0 0, v]).run Try.prog W = .ok c6 w6 ∧ EO w6 n c6 l ∧ Below n D w6 ∧ Turn (fun j => some e1 = some j) W w6 := by
  subst hn
  obtain ⟨c6, w6, h1, h2, h3, h4⟩ := hC.apps (hE.later hz) hz.size (by simpa using hl) ty
  refine ⟨c6, w6, h1, h2, hz.trans (h3.below hz.size (fun k hk e => ?_)), h3⟩
  have e : e1 = k := Option.some.inj e
  omega
theorem pushE {D W : World} {n g : Nat} {v : Value} {l : List Ev} {k t : Int} {d : ByteArray} (hz : Below n D W) (hn : D.heap.size = n) (hC : EO W n v l) (hG : At W g #[.int .i64 k, .int .i64 t, .string d]) (hl : l.length < 1000000) (ty : TypeId) :
    ∃ v9 w9, (Builtin.append_ #[29, 29] ty #[v, .slice (some ⟨g, 0, none⟩) 1 1]).run Try.prog W = .ok v9 w9 ∧ EO w9 n v9 (l ++ [⟨k, t, d⟩]) ∧ Below n D w9 := by
  subst hn
  obtain ⟨v9, w9, h1, h2, h3, h4⟩ := hC.push (c := 1) hG hz.size hl ty
  exact ⟨v9, w9, h1, h2, hz.trans (h3.below hz.size (fun k hk e => by have := hC.ge k e; omega))⟩
set_option maxHeartbeats 8000000 in
theorem radd_ok {w : World} {b : Nat} {v : Value} {l : List Ev} {k t : Int} {d : ByteArray} (h : LG w b v l) (hd : d.size ≤ maxLen) (hn : l.length ≤ 1000000) (hm : mayE ⟨k, t, d⟩ = true) (ht : ¬ t < nowE l) (h4 : l.length < 4096) :
    Calls Try.prog 18 #[.pointer (some ⟨b, 0, none⟩), .agg #[.int .i64 k, .int .i64 t, .string d]] w fun e w' => ∃ v', e = .returned (.tuple #[.int .i64 ((l.length : Int) + 1), .int .i64 0]) ∧ At w' b #[v'] ∧ EO w' w.heap.size v' (l ++ [⟨k, t, d⟩]) ∧ Turn (fun j => j = b) w w' := by
  have t1 : decide (t < nowE l) = false := decide_eq_false ht
  have t2 : decide ((4096 : Int) ≤ (l.length : Int)) = false := decide_eq_false (by omega)
  have hX := At.box w #[.int .i64 k, .int .i64 t, .string d] 23
  have hl := bel1 w (.cells #[.int .i64 k, .int .i64 t, .string d] 23)
  have hb0 : b < w.heap.size := h.at_.1
  have hL := h.later hl
  go_enter Try.func18, Try.ntmps18
  obtain ⟨⟨c0, c1, c2⟩, -, -⟩ := hX.three
  go_wp2_with fail
  refine (rchk_any k t d _ hd).mono ?_
  rw [codeE_t hm]
  rintro e w1 ⟨rfl, h1⟩
  have hl := bt hl h1
  have hX := hX.later h1
  have hL := hL.later h1
  clear h1 c0 c1 c2
  go_wp2
  refine wp_region_held_drew (S := (fun W => Below w1.drew.heap.size w1.drew W ∧ At W w.heap.size #[.int .i64 k, .int .i64 t, .string d] ∧ LG W b v l)) (by kernel_rfl) ?_ (fun hHeld => ?_)
  · first | exact ⟨Below.refl _ _, hX.later (Below.refl _ _).drew, hL.later (Below.refl _ _).drew⟩ | assumption
  refine wpAnyH_take (i := 0) (oi := ({ dst := some 12, op := Go.Op.fieldAddr 23 (Go.Operand.tmp 3) 1, type := 0, pos := "ref.go:83", after := #[], guard := none } : Go.Oper)) (v := .pointer (some ⟨w.heap.size, 1, none⟩)) rfl (by kernel_rfl) (by kernel_rfl) (by kernel_rfl) (fun _ _ _ h => h) (Or.inl ⟨by rfl, ?_⟩) (by assumption) ?_
  · intro wx hSw
    try dsimp only at hSw
    obtain ⟨-, u0, -⟩ := hSw
    obtain ⟨⟨x0, x1, x2⟩, -, -⟩ := u0.three
    go_simp
    try with_reducible rfl
  try simp only [Act.put, List.setIfInBounds_toArray, List.set_cons_zero, List.set_cons_succ]
  refine wpAnyH_take (i := 1) (oi := ({ dst := some 13, op := Go.Op.load 3 (Go.Operand.tmp 12), type := 3, pos := "ref.go:83", after := #[{ on := 0, ground := Go.Ground.data }], guard := none } : Go.Oper)) (v := .int .i64 t) rfl (by kernel_rfl) (by kernel_rfl) (by kernel_rfl) (fun _ _ _ h => h) (Or.inl ⟨by rfl, ?_⟩) (by assumption) ?_
  · intro wx hSw
    try dsimp only at hSw
    obtain ⟨-, u0, -⟩ := hSw
    obtain ⟨⟨x0, x1, x2⟩, -, -⟩ := u0.three
    go_simp
    try with_reducible rfl
  try simp only [Act.put, List.setIfInBounds_toArray, List.set_cons_zero, List.set_cons_succ]
  refine wpAnyH_take (i := 2) (oi := ({ dst := some 14, op := Go.Op.move (Go.Operand.tmp 0), type := 39, pos := "ref.go:83", after := #[], guard := none } : Go.Oper)) (v := .pointer (some ⟨b, 0, none⟩)) rfl (by kernel_rfl) (by kernel_rfl) (by kernel_rfl) (fun _ _ _ h => h) (Or.inl ⟨by rfl, ?_⟩) (by assumption) ?_
  · intro wx hSw
    try dsimp only at hSw
    obtain ⟨-, u0, -⟩ := hSw
    obtain ⟨⟨x0, x1, x2⟩, -, -⟩ := u0.three
    go_simp
    try with_reducible rfl
  try simp only [Act.put, List.setIfInBounds_toArray, List.set_cons_zero, List.set_cons_succ]
  refine wpAnyH_ready (rs := [3]) (by kernel_rfl) (by simp) ?_
  refine AllReadyH.cons (o := ({ dst := some 15, op := Go.Op.call { callee := Go.Callee.value (Go.Operand.func 21), args := #[Go.Operand.tmp 14], argTypes := #[39] }, type := 3, pos := "ref.go:83", after := #[{ on := 2, ground := Go.Ground.data }], guard := none } : Go.Oper)) rfl (fun K hK => ?_) AllReadyH.nil
  go_simp
  refine (rnow_any hHeld.2.2 hn).mono ?_
  rintro e wk ⟨rfl, hbk⟩
  refine hK.out _ _ ⟨bt hHeld.1 hbk, hHeld.2.1.later hbk, hHeld.2.2.later hbk⟩ (fun hHeld => ?_)
  clear hK K
  try simp only [Act.put, List.setIfInBounds_toArray, List.set_cons_zero, List.set_cons_succ]
  refine wpAnyH_take (i := 4) (oi := ({ dst := some 16, op := Go.Op.binOp Go.BinOp.lss 3 (Go.Operand.tmp 13) (Go.Operand.tmp 15) 3, type := 4, pos := "ref.go:83", after := #[{ on := 1, ground := Go.Ground.data }, { on := 3, ground := Go.Ground.data }], guard := none } : Go.Oper)) (v := .bool false) rfl (by kernel_rfl) (by kernel_rfl) (by kernel_rfl) (fun _ _ _ h => h) (Or.inl ⟨by rfl, ?_⟩) (by assumption) ?_
  · intro wx hSw
    try dsimp only at hSw
    obtain ⟨-, u0, -⟩ := hSw
    obtain ⟨⟨x0, x1, x2⟩, -, -⟩ := u0.three
    go_simp
    try with_reducible rfl
  try simp only [Act.put, List.setIfInBounds_toArray, List.set_cons_zero, List.set_cons_succ]
  refine wpAnyH_done (by kernel_rfl) ?_ _
  obtain ⟨hb2, hX, hL⟩ := hHeld
  have hl := bt hl (belU hb2)
  clear hb2
  obtain ⟨a, c, rfl⟩ := hL.eo.shape
  obtain ⟨y0, -⟩ := hL.at_.one
  obtain ⟨w3, hw3⟩ : ∃ x, x = wk := ⟨wk, rfl⟩
  subst hw3
  go_wp2
  have hX : At w3.drew w.heap.size #[.int .i64 k, .int .i64 t, .string d] := hX.later (Below.refl _ _).drew
  have hL : LG w3.drew b (.slice a l.length c) l := hL.later (Below.refl _ _).drew
  have hl : Below w.heap.size w w3.drew := hl.drew
  have hsz : w.heap.size ≤ w3.heap.size := hl.size
  have hz : Below w3.heap.size w3.drew w3.drew := Below.refl _ _
  refine wp_region_held_drew (S := (fun W => At W w.heap.size #[.int .i64 k, .int .i64 t, .string d])) (by kernel_rfl) ?_ (fun hHeld => ?_)
  · first | exact hX | assumption
  refine wpAnyH_take (i := 0) (oi := ({ dst := some 23, op := Go.Op.move (Go.Operand.tmp 0), type := 39, pos := "ref.go:89", after := #[], guard := none } : Go.Oper)) (v := .pointer (some ⟨b, 0, none⟩)) rfl (by kernel_rfl) (by kernel_rfl) (by kernel_rfl) (fun _ _ _ h => h) (Or.inl ⟨by rfl, ?_⟩) (by assumption) ?_
  · intro wx hSw
    try dsimp only at hSw
    obtain ⟨⟨x0, x1, x2⟩, -, -⟩ := hSw.three
    go_simp
    try with_reducible rfl
  try simp only [Act.put, List.setIfInBounds_toArray, List.set_cons_zero, List.set_cons_succ]
  refine wpAnyH_take (i := 2) (oi := ({ dst := some 25, op := Go.Op.move (Go.Operand.tmp 0), type := 39, pos := "ref.go:89", after := #[], guard := none } : Go.Oper)) (v := .pointer (some ⟨b, 0, none⟩)) rfl (by kernel_rfl) (by kernel_rfl) (by kernel_rfl) (fun _ _ _ h => h) (Or.inl ⟨by rfl, ?_⟩) (by assumption) ?_
  · intro wx hSw
    try dsimp only at hSw
    obtain ⟨⟨x0, x1, x2⟩, -, -⟩ := hSw.three
    go_simp
    try with_reducible rfl
  try simp only [Act.put, List.setIfInBounds_toArray, List.set_cons_zero, List.set_cons_succ]
  refine wpAnyH_take (i := 3) (oi := ({ dst := some 26, op := Go.Op.nilCheck (Go.Operand.tmp 25), type := 0, pos := "ref.go:89", after := #[{ on := 2, ground := Go.Ground.data }], guard := none } : Go.Oper)) (v := .pointer (some ⟨b, 0, none⟩)) rfl (by kernel_rfl) (by kernel_rfl) (by kernel_rfl) (fun _ _ _ h => h) (Or.inl ⟨by rfl, ?_⟩) (by assumption) ?_
  · intro wx hSw
    try dsimp only at hSw
    obtain ⟨⟨x0, x1, x2⟩, -, -⟩ := hSw.three
    go_simp
    try with_reducible rfl
  try simp only [Act.put, List.setIfInBounds_toArray, List.set_cons_zero, List.set_cons_succ]
  refine wpAnyH_take (i := 4) (oi := ({ dst := some 27, op := Go.Op.fieldAddr 41 (Go.Operand.tmp 26) 0, type := 0, pos := "ref.go:89", after := #[{ on := 3, ground := Go.Ground.data }], guard := none } : Go.Oper)) (v := .pointer (some ⟨b, 0, none⟩)) rfl (by kernel_rfl) (by kernel_rfl) (by kernel_rfl) (fun _ _ _ h => h) (Or.inl ⟨by rfl, ?_⟩) (by assumption) ?_
  · intro wx hSw
    try dsimp only at hSw
    obtain ⟨⟨x0, x1, x2⟩, -, -⟩ := hSw.three
    go_simp
    try with_reducible rfl
  try simp only [Act.put, List.setIfInBounds_toArray, List.set_cons_zero, List.set_cons_succ]
  refine wpAnyH_take (i := 7) (oi := ({ dst := some 30, op := Go.Op.load 23 (Go.Operand.tmp 3), type := 23, pos := "ref.go:89", after := #[], guard := none } : Go.Oper)) (v := .agg #[.int .i64 k, .int .i64 t, .string d]) rfl (by kernel_rfl) (by kernel_rfl) (by kernel_rfl) (fun _ _ _ h => h) (Or.inl ⟨by rfl, ?_⟩) (by assumption) ?_
  · intro wx hSw
    try dsimp only at hSw
    obtain ⟨⟨x0, x1, x2⟩, -, -⟩ := hSw.three
    go_simp
    try with_reducible rfl
  try simp only [Act.put, List.setIfInBounds_toArray, List.set_cons_zero, List.set_cons_succ]
  refine wpAnyH_ready (rs := [1, 5, 8]) (by kernel_rfl) (by simp) ?_
  refine AllReadyH.cons (o := ({ dst := some 24, op := Go.Op.buildSlice 29 0 #[], type := 29, pos := "ref.go:89", after := #[], guard := none } : Go.Oper)) rfl (fun K hK => ?_) (AllReadyH.cons (o := ({ dst := some 28, op := Go.Op.load 29 (Go.Operand.tmp 27), type := 29, pos := "ref.go:89", after := #[{ on := 4, ground := Go.Ground.data }], guard := none } : Go.Oper)) rfl (fun K hK => ?_) (AllReadyH.cons (o := ({ dst := some 31, op := Go.Op.buildSlice 29 1 #[(0, Go.Operand.tmp 30)], type := 29, pos := "ref.go:89", after := #[{ on := 7, ground := Go.Ground.data }], guard := none } : Go.Oper)) rfl (fun K hK => ?_) AllReadyH.nil))
  · go_simp
    refine hK.out _ _ (hX.later (hz.alloc hz.size (.cells #[] 23))) (fun hHeld => ?_)
    clear hK K
    try simp only [Act.put, List.setIfInBounds_toArray, List.set_cons_zero, List.set_cons_succ]
    have hC : EO (w3.drew.alloc (.cells #[] 23)) w3.heap.size (.slice (some ⟨w3.heap.size, 0, none⟩) 0 0) [] := by
      have hh : w3.drew.heap.size = w3.heap.size := rfl
      have hc := (EO.made w3.drew).low (b' := w3.heap.size) hz.size
      rw [hh] at hc
      exact hc
    have hz := hz.alloc hz.size (.cells #[] 23)
    refine wpAnyH_ready (rs := [5, 8]) (by kernel_rfl) (by simp) ?_
    refine AllReadyH.cons (o := ({ dst := some 28, op := Go.Op.load 29 (Go.Operand.tmp 27), type := 29, pos := "ref.go:89", after := #[{ on := 4, ground := Go.Ground.data }], guard := none } : Go.Oper)) rfl (fun K hK => ?_) (AllReadyH.cons (o := ({ dst := some 31, op := Go.Op.buildSlice 29 1 #[(0, Go.Operand.tmp 30)], type := 29, pos := "ref.go:89", after := #[{ on := 7, ground := Go.Ground.data }], guard := none } : Go.Oper)) rfl (fun K hK => ?_) AllReadyH.nil)
    · have q0 := (hL.at_.later hz).one.1
      have q1 : (w3.alloc (.cells #[] 23)).drew.cell? ⟨b, 0, none⟩ = some (.slice a l.length c) := q0
      go_simp
      refine hK.out _ _ hHeld (fun hHeld => ?_)
      clear hK K
      try simp only [Act.put, List.setIfInBounds_toArray, List.set_cons_zero, List.set_cons_succ]
      refine wpAnyH_ready (rs := [6, 8]) (by kernel_rfl) (by simp) ?_
      refine AllReadyH.cons (o := ({ dst := some 29, op := Go.Op.call { callee := Go.Callee.builtin Go.Builtin.append, args := #[Go.Operand.tmp 24, Go.Operand.tmp 28], argTypes := #[29, 29] }, type := 29, pos := "ref.go:89", after := #[{ on := 1, ground := Go.Ground.data }, { on := 5, ground := Go.Ground.data }], guard := none } : Go.Oper)) rfl (fun K hK => ?_) (AllReadyH.cons (o := ({ dst := some 31, op := Go.Op.buildSlice 29 1 #[(0, Go.Operand.tmp 30)], type := 29, pos := "ref.go:89", after := #[{ on := 7, ground := Go.Ground.data }], guard := none } : Go.Oper)) rfl (fun K hK => ?_) AllReadyH.nil)
      · obtain ⟨c6, w6, hrun, hC6, hz6, ht6⟩ := cloneE hz rfl hL.eo (by omega) hC hn 29
        obtain ⟨a6, n6, rfl⟩ := hC6.shape
        refine step_append_str (by rfl) _ _ (by rfl) (by rfl) (by rfl) hrun ?_
        refine hK.out _ _ (hX.later hz6) (fun hHeld => ?_)
        clear hK K
        try simp only [Act.put, List.setIfInBounds_toArray, List.set_cons_zero, List.set_cons_succ]
        have hz := hz6
        have hC := hC6
        clear hz6 hC6 ht6 hrun
        refine wpAnyH_ready (rs := [8]) (by kernel_rfl) (by simp) ?_
        refine AllReadyH.cons (o := ({ dst := some 31, op := Go.Op.buildSlice 29 1 #[(0, Go.Operand.tmp 30)], type := 29, pos := "ref.go:89", after := #[{ on := 7, ground := Go.Ground.data }], guard := none } : Go.Oper)) rfl (fun K hK => ?_) AllReadyH.nil
        · go_simp
          refine hK.out _ _ (hX.later (hz.alloc hz.size (.cells #[.int .i64 k, .int .i64 t, .string d] 23))) (fun hHeld => ?_)
          clear hK K
          try simp only [Act.put, List.setIfInBounds_toArray, List.set_cons_zero, List.set_cons_succ]
          have hG : At (w6.alloc (.cells #[.int .i64 k, .int .i64 t, .string d] 23)) (w6.heap.size) #[.int .i64 k, .int .i64 t, .string d] := by
            have hh : w6.heap.size = w6.heap.size := rfl
            have hc := At.box w6 #[.int .i64 k, .int .i64 t, .string d] 23
            rw [hh] at hc
            exact hc
          have hC := hC.later (bel1 w6 (.cells #[.int .i64 k, .int .i64 t, .string d] 23))
          have hz := hz.alloc hz.size (.cells #[.int .i64 k, .int .i64 t, .string d] 23)
          refine wpAnyH_ready (rs := [9]) (by kernel_rfl) (by simp) ?_
          refine AllReadyH.cons (o := ({ dst := some 32, op := Go.Op.call { callee := Go.Callee.builtin Go.Builtin.append, args := #[Go.Operand.tmp 29, Go.Operand.tmp 31], argTypes := #[29, 29] }, type := 29, pos := "ref.go:89", after := #[{ on := 6, ground := Go.Ground.data }, { on := 8, ground := Go.Ground.data }, { on := 6, ground := Go.Ground.chain }], guard := none } : Go.Oper)) rfl (fun K hK => ?_) AllReadyH.nil
          · obtain ⟨v9, w9, hrun9, hC9, hz9⟩ := pushE hz rfl hC hG (by omega) 29
            obtain ⟨L2, hL2⟩ : ∃ L2, l ++ [Ev.mk k t d] = L2 := ⟨_, rfl⟩
            rw [hL2] at hC9
            have hlen : Hid (L2.length = l.length + 1) := by show L2.length = l.length + 1; rw [← hL2]; simp
            obtain ⟨a9, n9, rfl⟩ := hC9.shape
            refine step_append_str (by rfl) _ _ (by rfl) (by rfl) (by rfl) hrun9 ?_
            refine hK.out _ _ (hX.later hz9) (fun hHeld => ?_)
            clear hK K
            try simp only [Act.put, List.setIfInBounds_toArray, List.set_cons_zero, List.set_cons_succ]
            refine wpAnyH_take (i := 10) (oi := ({ dst := some 33, op := Go.Op.nilCheck (Go.Operand.tmp 23), type := 0, pos := "ref.go:89", after := #[{ on := 0, ground := Go.Ground.data }, { on := 0, ground := Go.Ground.phase }, { on := 1, ground := Go.Ground.phase }, { on := 2, ground := Go.Ground.phase }, { on := 3, ground := Go.Ground.phase }, { on := 4, ground := Go.Ground.phase }, { on := 5, ground := Go.Ground.phase }, { on := 6, ground := Go.Ground.phase }, { on := 7, ground := Go.Ground.phase }, { on := 8, ground := Go.Ground.phase }, { on := 9, ground := Go.Ground.phase }], guard := none } : Go.Oper)) (v := .pointer (some ⟨b, 0, none⟩)) rfl (by kernel_rfl) (by kernel_rfl) (by kernel_rfl) (fun _ _ _ h => h) (Or.inl ⟨by rfl, ?_⟩) (by assumption) ?_
            · intro wx hSw
              try dsimp only at hSw
              obtain ⟨⟨x0, x1, x2⟩, -, -⟩ := hSw.three
              go_simp
              try with_reducible rfl
            try simp only [Act.put, List.setIfInBounds_toArray, List.set_cons_zero, List.set_cons_succ]
            refine wpAnyH_take (i := 11) (oi := ({ dst := some 34, op := Go.Op.fieldAddr 41 (Go.Operand.tmp 33) 0, type := 0, pos := "ref.go:89", after := #[{ on := 10, ground := Go.Ground.data }, { on := 0, ground := Go.Ground.phase }, { on := 1, ground := Go.Ground.phase }, { on := 2, ground := Go.Ground.phase }, { on := 3, ground := Go.Ground.phase }, { on := 4, ground := Go.Ground.phase }, { on := 5, ground := Go.Ground.phase }, { on := 6, ground := Go.Ground.phase }, { on := 7, ground := Go.Ground.phase }, { on := 8, ground := Go.Ground.phase }, { on := 9, ground := Go.Ground.phase }], guard := none } : Go.Oper)) (v := .pointer (some ⟨b, 0, none⟩)) rfl (by kernel_rfl) (by kernel_rfl) (by kernel_rfl) (fun _ _ _ h => h) (Or.inl ⟨by rfl, ?_⟩) (by assumption) ?_
            · intro wx hSw
              try dsimp only at hSw
              obtain ⟨⟨x0, x1, x2⟩, -, -⟩ := hSw.three
              go_simp
              try with_reducible rfl
            try simp only [Act.put, List.setIfInBounds_toArray, List.set_cons_zero, List.set_cons_succ]
            refine wpAnyH_ready (rs := [12]) (by kernel_rfl) (by simp) ?_
            refine AllReadyH.cons (o := ({ dst := none, op := Go.Op.store 29 (Go.Operand.tmp 34) (Go.Operand.tmp 32), type := 0, pos := "ref.go:89", after := #[{ on := 11, ground := Go.Ground.data }, { on := 9, ground := Go.Ground.data }, { on := 9, ground := Go.Ground.chain }, { on := 0, ground := Go.Ground.phase }, { on := 1, ground := Go.Ground.phase }, { on := 2, ground := Go.Ground.phase }, { on := 3, ground := Go.Ground.phase }, { on := 4, ground := Go.Ground.phase }, { on := 5, ground := Go.Ground.phase }, { on := 6, ground := Go.Ground.phase }, { on := 7, ground := Go.Ground.phase }, { on := 8, ground := Go.Ground.phase }, { on := 9, ground := Go.Ground.phase }], guard := none } : Go.Oper)) rfl (fun K hK => ?_) AllReadyH.nil
            · obtain ⟨k31, k32⟩ := (hL.at_.later hz9).one
              have hXc := (hX.later hz9).turn (turn_set w9 b 0 (.slice a9 L2.length n9)) (by omega)
              go_simp
              refine hK.out _ _ hXc (fun hHeld => ?_)
              clear hK K
              try simp only [Act.put, List.setIfInBounds_toArray, List.set_cons_zero, List.set_cons_succ]
              refine wpAnyH_done (by kernel_rfl) ?_ _
              have hB9 := (hL.at_.later hz9).set 0 (.slice a9 L2.length n9)
              have hE9 := hC9.turn (turn_set w9 b 0 (.slice a9 L2.length n9)) (fun j hj e => by have := hC9.ge j hj; omega)
              have hT9 := (Turn.of_below (S := fun j => j = b) (w := w3.drew) (w' := w9) hz9).trans (turn_set w9 b 0 (.slice a9 L2.length n9))
              have hB9' : At (w9.setCell ⟨b, 0, none⟩ (.slice a9 L2.length n9)) b #[.slice a9 L2.length n9] := hB9
              obtain ⟨y0, -⟩ := hB9'.one
              have HT : Hid (Turn (fun j => j = b) w3.drew (w9.setCell ⟨b, 0, none⟩ (.slice a9 L2.length n9))) := hT9
              clear hT9 hB9 hz hz9
              go_wp2
              go_ret2
              refine ⟨_, by rw [show L2.length = l.length + 1 from hlen]; rfl, hB9', by rw [hL2]; exact hE9.low hsz, (Turn.of_below hl).trans HT⟩
      · go_simp
        refine hK.out _ _ (hX.later (hz.alloc hz.size (.cells #[.int .i64 k, .int .i64 t, .string d] 23))) (fun hHeld => ?_)
        clear hK K
        try simp only [Act.put, List.setIfInBounds_toArray, List.set_cons_zero, List.set_cons_succ]
        have hG : At ((w3.drew.alloc (.cells #[] 23)).alloc (.cells #[.int .i64 k, .int .i64 t, .string d] 23)) (w3.heap.size + 1) #[.int .i64 k, .int .i64 t, .string d] := by
          have hh : (w3.drew.alloc (.cells #[] 23)).heap.size = w3.heap.size + 1 := (World.size_alloc _ _)
          have hc := At.box (w3.drew.alloc (.cells #[] 23)) #[.int .i64 k, .int .i64 t, .string d] 23
          rw [hh] at hc
          exact hc
        have hC := hC.later (bel1 (w3.drew.alloc (.cells #[] 23)) (.cells #[.int .i64 k, .int .i64 t, .string d] 23))
        have hz := hz.alloc hz.size (.cells #[.int .i64 k, .int .i64 t, .string d] 23)
        refine wpAnyH_ready (rs := [6]) (by kernel_rfl) (by simp) ?_
        refine AllReadyH.cons (o := ({ dst := some 29, op := Go.Op.call { callee := Go.Callee.builtin Go.Builtin.append, args := #[Go.Operand.tmp 24, Go.Operand.tmp 28], argTypes := #[29, 29] }, type := 29, pos := "ref.go:89", after := #[{ on := 1, ground := Go.Ground.data }, { on := 5, ground := Go.Ground.data }], guard := none } : Go.Oper)) rfl (fun K hK => ?_) AllReadyH.nil
        · obtain ⟨c6, w6, hrun, hC6, hz6, ht6⟩ := cloneE hz rfl hL.eo (by omega) hC hn 29
          obtain ⟨a6, n6, rfl⟩ := hC6.shape
          refine step_append_str (by rfl) _ _ (by rfl) (by rfl) (by rfl) hrun ?_
          refine hK.out _ _ (hX.later hz6) (fun hHeld => ?_)
          clear hK K
          try simp only [Act.put, List.setIfInBounds_toArray, List.set_cons_zero, List.set_cons_succ]
          have hG := hG.turn ht6 (fun e => by injection e with e; omega)
          have hz := hz6
          have hC := hC6
          clear hz6 hC6 ht6 hrun
          refine wpAnyH_ready (rs := [9]) (by kernel_rfl) (by simp) ?_
          refine AllReadyH.cons (o := ({ dst := some 32, op := Go.Op.call { callee := Go.Callee.builtin Go.Builtin.append, args := #[Go.Operand.tmp 29, Go.Operand.tmp 31], argTypes := #[29, 29] }, type := 29, pos := "ref.go:89", after := #[{ on := 6, ground := Go.Ground.data }, { on := 8, ground := Go.Ground.data }, { on := 6, ground := Go.Ground.chain }], guard := none } : Go.Oper)) rfl (fun K hK => ?_) AllReadyH.nil
          · obtain ⟨v9, w9, hrun9, hC9, hz9⟩ := pushE hz rfl hC hG (by omega) 29
            obtain ⟨L2, hL2⟩ : ∃ L2, l ++ [Ev.mk k t d] = L2 := ⟨_, rfl⟩
            rw [hL2] at hC9
            have hlen : Hid (L2.length = l.length + 1) := by show L2.length = l.length + 1; rw [← hL2]; simp
            obtain ⟨a9, n9, rfl⟩ := hC9.shape
            refine step_append_str (by rfl) _ _ (by rfl) (by rfl) (by rfl) hrun9 ?_
            refine hK.out _ _ (hX.later hz9) (fun hHeld => ?_)
            clear hK K
            try simp only [Act.put, List.setIfInBounds_toArray, List.set_cons_zero, List.set_cons_succ]
            refine wpAnyH_take (i := 10) (oi := ({ dst := some 33, op := Go.Op.nilCheck (Go.Operand.tmp 23), type := 0, pos := "ref.go:89", after := #[{ on := 0, ground := Go.Ground.data }, { on := 0, ground := Go.Ground.phase }, { on := 1, ground := Go.Ground.phase }, { on := 2, ground := Go.Ground.phase }, { on := 3, ground := Go.Ground.phase }, { on := 4, ground := Go.Ground.phase }, { on := 5, ground := Go.Ground.phase }, { on := 6, ground := Go.Ground.phase }, { on := 7, ground := Go.Ground.phase }, { on := 8, ground := Go.Ground.phase }, { on := 9, ground := Go.Ground.phase }], guard := none } : Go.Oper)) (v := .pointer (some ⟨b, 0, none⟩)) rfl (by kernel_rfl) (by kernel_rfl) (by kernel_rfl) (fun _ _ _ h => h) (Or.inl ⟨by rfl, ?_⟩) (by assumption) ?_
            · intro wx hSw
              try dsimp only at hSw
              obtain ⟨⟨x0, x1, x2⟩, -, -⟩ := hSw.three
              go_simp
              try with_reducible rfl
            try simp only [Act.put, List.setIfInBounds_toArray, List.set_cons_zero, List.set_cons_succ]
            refine wpAnyH_take (i := 11) (oi := ({ dst := some 34, op := Go.Op.fieldAddr 41 (Go.Operand.tmp 33) 0, type := 0, pos := "ref.go:89", after := #[{ on := 10, ground := Go.Ground.data }, { on := 0, ground := Go.Ground.phase }, { on := 1, ground := Go.Ground.phase }, { on := 2, ground := Go.Ground.phase }, { on := 3, ground := Go.Ground.phase }, { on := 4, ground := Go.Ground.phase }, { on := 5, ground := Go.Ground.phase }, { on := 6, ground := Go.Ground.phase }, { on := 7, ground := Go.Ground.phase }, { on := 8, ground := Go.Ground.phase }, { on := 9, ground := Go.Ground.phase }], guard := none } : Go.Oper)) (v := .pointer (some ⟨b, 0, none⟩)) rfl (by kernel_rfl) (by kernel_rfl) (by kernel_rfl) (fun _ _ _ h => h) (Or.inl ⟨by rfl, ?_⟩) (by assumption) ?_
            · intro wx hSw
              try dsimp only at hSw
              obtain ⟨⟨x0, x1, x2⟩, -, -⟩ := hSw.three
              go_simp
              try with_reducible rfl
            try simp only [Act.put, List.setIfInBounds_toArray, List.set_cons_zero, List.set_cons_succ]
            refine wpAnyH_ready (rs := [12]) (by kernel_rfl) (by simp) ?_
            refine AllReadyH.cons (o := ({ dst := none, op := Go.Op.store 29 (Go.Operand.tmp 34) (Go.Operand.tmp 32), type := 0, pos := "ref.go:89", after := #[{ on := 11, ground := Go.Ground.data }, { on := 9, ground := Go.Ground.data }, { on := 9, ground := Go.Ground.chain }, { on := 0, ground := Go.Ground.phase }, { on := 1, ground := Go.Ground.phase }, { on := 2, ground := Go.Ground.phase }, { on := 3, ground := Go.Ground.phase }, { on := 4, ground := Go.Ground.phase }, { on := 5, ground := Go.Ground.phase }, { on := 6, ground := Go.Ground.phase }, { on := 7, ground := Go.Ground.phase }, { on := 8, ground := Go.Ground.phase }, { on := 9, ground := Go.Ground.phase }], guard := none } : Go.Oper)) rfl (fun K hK => ?_) AllReadyH.nil
            · obtain ⟨k31, k32⟩ := (hL.at_.later hz9).one
              have hXc := (hX.later hz9).turn (turn_set w9 b 0 (.slice a9 L2.length n9)) (by omega)
              go_simp
              refine hK.out _ _ hXc (fun hHeld => ?_)
              clear hK K
              try simp only [Act.put, List.setIfInBounds_toArray, List.set_cons_zero, List.set_cons_succ]
              refine wpAnyH_done (by kernel_rfl) ?_ _
              have hB9 := (hL.at_.later hz9).set 0 (.slice a9 L2.length n9)
              have hE9 := hC9.turn (turn_set w9 b 0 (.slice a9 L2.length n9)) (fun j hj e => by have := hC9.ge j hj; omega)
              have hT9 := (Turn.of_below (S := fun j => j = b) (w := w3.drew) (w' := w9) hz9).trans (turn_set w9 b 0 (.slice a9 L2.length n9))
              have hB9' : At (w9.setCell ⟨b, 0, none⟩ (.slice a9 L2.length n9)) b #[.slice a9 L2.length n9] := hB9
              obtain ⟨y0, -⟩ := hB9'.one
              have HT : Hid (Turn (fun j => j = b) w3.drew (w9.setCell ⟨b, 0, none⟩ (.slice a9 L2.length n9))) := hT9
              clear hT9 hB9 hz hz9
              go_wp2
              go_ret2
              refine ⟨_, by rw [show L2.length = l.length + 1 from hlen]; rfl, hB9', by rw [hL2]; exact hE9.low hsz, (Turn.of_below hl).trans HT⟩
    · go_simp
      refine hK.out _ _ (hX.later (hz.alloc hz.size (.cells #[.int .i64 k, .int .i64 t, .string d] 23))) (fun hHeld => ?_)
      clear hK K
      try simp only [Act.put, List.setIfInBounds_toArray, List.set_cons_zero, List.set_cons_succ]
      have hG : At ((w3.drew.alloc (.cells #[] 23)).alloc (.cells #[.int .i64 k, .int .i64 t, .string d] 23)) (w3.heap.size + 1) #[.int .i64 k, .int .i64 t, .string d] := by
        have hh : (w3.drew.alloc (.cells #[] 23)).heap.size = w3.heap.size + 1 := (World.size_alloc _ _)
        have hc := At.box (w3.drew.alloc (.cells #[] 23)) #[.int .i64 k, .int .i64 t, .string d] 23
        rw [hh] at hc
        exact hc
      have hC := hC.later (bel1 (w3.drew.alloc (.cells #[] 23)) (.cells #[.int .i64 k, .int .i64 t, .string d] 23))
      have hz := hz.alloc hz.size (.cells #[.int .i64 k, .int .i64 t, .string d] 23)
      refine wpAnyH_ready (rs := [5]) (by kernel_rfl) (by simp) ?_
      refine AllReadyH.cons (o := ({ dst := some 28, op := Go.Op.load 29 (Go.Operand.tmp 27), type := 29, pos := "ref.go:89", after := #[{ on := 4, ground := Go.Ground.data }], guard := none } : Go.Oper)) rfl (fun K hK => ?_) AllReadyH.nil
      · have q0 := (hL.at_.later hz).one.1
        have q1 : ((w3.alloc (.cells #[] 23)).alloc (.cells #[.int .i64 k, .int .i64 t, .string d] 23)).drew.cell? ⟨b, 0, none⟩ = some (.slice a l.length c) := q0
        go_simp
        refine hK.out _ _ hHeld (fun hHeld => ?_)
        clear hK K
        try simp only [Act.put, List.setIfInBounds_toArray, List.set_cons_zero, List.set_cons_succ]
        refine wpAnyH_ready (rs := [6]) (by kernel_rfl) (by simp) ?_
        refine AllReadyH.cons (o := ({ dst := some 29, op := Go.Op.call { callee := Go.Callee.builtin Go.Builtin.append, args := #[Go.Operand.tmp 24, Go.Operand.tmp 28], argTypes := #[29, 29] }, type := 29, pos := "ref.go:89", after := #[{ on := 1, ground := Go.Ground.data }, { on := 5, ground := Go.Ground.data }], guard := none } : Go.Oper)) rfl (fun K hK => ?_) AllReadyH.nil
        · obtain ⟨c6, w6, hrun, hC6, hz6, ht6⟩ := cloneE hz rfl hL.eo (by omega) hC hn 29
          obtain ⟨a6, n6, rfl⟩ := hC6.shape
          refine step_append_str (by rfl) _ _ (by rfl) (by rfl) (by rfl) hrun ?_
          refine hK.out _ _ (hX.later hz6) (fun hHeld => ?_)
          clear hK K
          try simp only [Act.put, List.setIfInBounds_toArray, List.set_cons_zero, List.set_cons_succ]
          have hG := hG.turn ht6 (fun e => by injection e with e; omega)
          have hz := hz6
          have hC := hC6
          clear hz6 hC6 ht6 hrun
          refine wpAnyH_ready (rs := [9]) (by kernel_rfl) (by simp) ?_
          refine AllReadyH.cons (o := ({ dst := some 32, op := Go.Op.call { callee := Go.Callee.builtin Go.Builtin.append, args := #[Go.Operand.tmp 29, Go.Operand.tmp 31], argTypes := #[29, 29] }, type := 29, pos := "ref.go:89", after := #[{ on := 6, ground := Go.Ground.data }, { on := 8, ground := Go.Ground.data }, { on := 6, ground := Go.Ground.chain }], guard := none } : Go.Oper)) rfl (fun K hK => ?_) AllReadyH.nil
          · obtain ⟨v9, w9, hrun9, hC9, hz9⟩ := pushE hz rfl hC hG (by omega) 29
            obtain ⟨L2, hL2⟩ : ∃ L2, l ++ [Ev.mk k t d] = L2 := ⟨_, rfl⟩
            rw [hL2] at hC9
            have hlen : Hid (L2.length = l.length + 1) := by show L2.length = l.length + 1; rw [← hL2]; simp
            obtain ⟨a9, n9, rfl⟩ := hC9.shape
            refine step_append_str (by rfl) _ _ (by rfl) (by rfl) (by rfl) hrun9 ?_
            refine hK.out _ _ (hX.later hz9) (fun hHeld => ?_)
            clear hK K
            try simp only [Act.put, List.setIfInBounds_toArray, List.set_cons_zero, List.set_cons_succ]
            refine wpAnyH_take (i := 10) (oi := ({ dst := some 33, op := Go.Op.nilCheck (Go.Operand.tmp 23), type := 0, pos := "ref.go:89", after := #[{ on := 0, ground := Go.Ground.data }, { on := 0, ground := Go.Ground.phase }, { on := 1, ground := Go.Ground.phase }, { on := 2, ground := Go.Ground.phase }, { on := 3, ground := Go.Ground.phase }, { on := 4, ground := Go.Ground.phase }, { on := 5, ground := Go.Ground.phase }, { on := 6, ground := Go.Ground.phase }, { on := 7, ground := Go.Ground.phase }, { on := 8, ground := Go.Ground.phase }, { on := 9, ground := Go.Ground.phase }], guard := none } : Go.Oper)) (v := .pointer (some ⟨b, 0, none⟩)) rfl (by kernel_rfl) (by kernel_rfl) (by kernel_rfl) (fun _ _ _ h => h) (Or.inl ⟨by rfl, ?_⟩) (by assumption) ?_
            · intro wx hSw
              try dsimp only at hSw
              obtain ⟨⟨x0, x1, x2⟩, -, -⟩ := hSw.three
              go_simp
              try with_reducible rfl
            try simp only [Act.put, List.setIfInBounds_toArray, List.set_cons_zero, List.set_cons_succ]
            refine wpAnyH_take (i := 11) (oi := ({ dst := some 34, op := Go.Op.fieldAddr 41 (Go.Operand.tmp 33) 0, type := 0, pos := "ref.go:89", after := #[{ on := 10, ground := Go.Ground.data }, { on := 0, ground := Go.Ground.phase }, { on := 1, ground := Go.Ground.phase }, { on := 2, ground := Go.Ground.phase }, { on := 3, ground := Go.Ground.phase }, { on := 4, ground := Go.Ground.phase }, { on := 5, ground := Go.Ground.phase }, { on := 6, ground := Go.Ground.phase }, { on := 7, ground := Go.Ground.phase }, { on := 8, ground := Go.Ground.phase }, { on := 9, ground := Go.Ground.phase }], guard := none } : Go.Oper)) (v := .pointer (some ⟨b, 0, none⟩)) rfl (by kernel_rfl) (by kernel_rfl) (by kernel_rfl) (fun _ _ _ h => h) (Or.inl ⟨by rfl, ?_⟩) (by assumption) ?_
            · intro wx hSw
              try dsimp only at hSw
              obtain ⟨⟨x0, x1, x2⟩, -, -⟩ := hSw.three
              go_simp
              try with_reducible rfl
            try simp only [Act.put, List.setIfInBounds_toArray, List.set_cons_zero, List.set_cons_succ]
            refine wpAnyH_ready (rs := [12]) (by kernel_rfl) (by simp) ?_
            refine AllReadyH.cons (o := ({ dst := none, op := Go.Op.store 29 (Go.Operand.tmp 34) (Go.Operand.tmp 32), type := 0, pos := "ref.go:89", after := #[{ on := 11, ground := Go.Ground.data }, { on := 9, ground := Go.Ground.data }, { on := 9, ground := Go.Ground.chain }, { on := 0, ground := Go.Ground.phase }, { on := 1, ground := Go.Ground.phase }, { on := 2, ground := Go.Ground.phase }, { on := 3, ground := Go.Ground.phase }, { on := 4, ground := Go.Ground.phase }, { on := 5, ground := Go.Ground.phase }, { on := 6, ground := Go.Ground.phase }, { on := 7, ground := Go.Ground.phase }, { on := 8, ground := Go.Ground.phase }, { on := 9, ground := Go.Ground.phase }], guard := none } : Go.Oper)) rfl (fun K hK => ?_) AllReadyH.nil
            · obtain ⟨k31, k32⟩ := (hL.at_.later hz9).one
              have hXc := (hX.later hz9).turn (turn_set w9 b 0 (.slice a9 L2.length n9)) (by omega)
              go_simp
              refine hK.out _ _ hXc (fun hHeld => ?_)
              clear hK K
              try simp only [Act.put, List.setIfInBounds_toArray, List.set_cons_zero, List.set_cons_succ]
              refine wpAnyH_done (by kernel_rfl) ?_ _
              have hB9 := (hL.at_.later hz9).set 0 (.slice a9 L2.length n9)
              have hE9 := hC9.turn (turn_set w9 b 0 (.slice a9 L2.length n9)) (fun j hj e => by have := hC9.ge j hj; omega)
              have hT9 := (Turn.of_below (S := fun j => j = b) (w := w3.drew) (w' := w9) hz9).trans (turn_set w9 b 0 (.slice a9 L2.length n9))
              have hB9' : At (w9.setCell ⟨b, 0, none⟩ (.slice a9 L2.length n9)) b #[.slice a9 L2.length n9] := hB9
              obtain ⟨y0, -⟩ := hB9'.one
              have HT : Hid (Turn (fun j => j = b) w3.drew (w9.setCell ⟨b, 0, none⟩ (.slice a9 L2.length n9))) := hT9
              clear hT9 hB9 hz hz9
              go_wp2
              go_ret2
              refine ⟨_, by rw [show L2.length = l.length + 1 from hlen]; rfl, hB9', by rw [hL2]; exact hE9.low hsz, (Turn.of_below hl).trans HT⟩
  · have q0 := (hL.at_.later hz).one.1
    have q1 : w3.drew.cell? ⟨b, 0, none⟩ = some (.slice a l.length c) := q0
    go_simp
    refine hK.out _ _ hHeld (fun hHeld => ?_)
    clear hK K
    try simp only [Act.put, List.setIfInBounds_toArray, List.set_cons_zero, List.set_cons_succ]
    refine wpAnyH_ready (rs := [1, 8]) (by kernel_rfl) (by simp) ?_
    refine AllReadyH.cons (o := ({ dst := some 24, op := Go.Op.buildSlice 29 0 #[], type := 29, pos := "ref.go:89", after := #[], guard := none } : Go.Oper)) rfl (fun K hK => ?_) (AllReadyH.cons (o := ({ dst := some 31, op := Go.Op.buildSlice 29 1 #[(0, Go.Operand.tmp 30)], type := 29, pos := "ref.go:89", after := #[{ on := 7, ground := Go.Ground.data }], guard := none } : Go.Oper)) rfl (fun K hK => ?_) AllReadyH.nil)
    · go_simp
      refine hK.out _ _ (hX.later (hz.alloc hz.size (.cells #[] 23))) (fun hHeld => ?_)
      clear hK K
      try simp only [Act.put, List.setIfInBounds_toArray, List.set_cons_zero, List.set_cons_succ]
      have hC : EO (w3.drew.alloc (.cells #[] 23)) w3.heap.size (.slice (some ⟨w3.heap.size, 0, none⟩) 0 0) [] := by
        have hh : w3.drew.heap.size = w3.heap.size := rfl
        have hc := (EO.made w3.drew).low (b' := w3.heap.size) hz.size
        rw [hh] at hc
        exact hc
      have hz := hz.alloc hz.size (.cells #[] 23)
      refine wpAnyH_ready (rs := [6, 8]) (by kernel_rfl) (by simp) ?_
      refine AllReadyH.cons (o := ({ dst := some 29, op := Go.Op.call { callee := Go.Callee.builtin Go.Builtin.append, args := #[Go.Operand.tmp 24, Go.Operand.tmp 28], argTypes := #[29, 29] }, type := 29, pos := "ref.go:89", after := #[{ on := 1, ground := Go.Ground.data }, { on := 5, ground := Go.Ground.data }], guard := none } : Go.Oper)) rfl (fun K hK => ?_) (AllReadyH.cons (o := ({ dst := some 31, op := Go.Op.buildSlice 29 1 #[(0, Go.Operand.tmp 30)], type := 29, pos := "ref.go:89", after := #[{ on := 7, ground := Go.Ground.data }], guard := none } : Go.Oper)) rfl (fun K hK => ?_) AllReadyH.nil)
      · obtain ⟨c6, w6, hrun, hC6, hz6, ht6⟩ := cloneE hz rfl hL.eo (by omega) hC hn 29
        obtain ⟨a6, n6, rfl⟩ := hC6.shape
        refine step_append_str (by rfl) _ _ (by rfl) (by rfl) (by rfl) hrun ?_
        refine hK.out _ _ (hX.later hz6) (fun hHeld => ?_)
        clear hK K
        try simp only [Act.put, List.setIfInBounds_toArray, List.set_cons_zero, List.set_cons_succ]
        have hz := hz6
        have hC := hC6
        clear hz6 hC6 ht6 hrun
        refine wpAnyH_ready (rs := [8]) (by kernel_rfl) (by simp) ?_
        refine AllReadyH.cons (o := ({ dst := some 31, op := Go.Op.buildSlice 29 1 #[(0, Go.Operand.tmp 30)], type := 29, pos := "ref.go:89", after := #[{ on := 7, ground := Go.Ground.data }], guard := none } : Go.Oper)) rfl (fun K hK => ?_) AllReadyH.nil
        · go_simp
          refine hK.out _ _ (hX.later (hz.alloc hz.size (.cells #[.int .i64 k, .int .i64 t, .string d] 23))) (fun hHeld => ?_)
          clear hK K
          try simp only [Act.put, List.setIfInBounds_toArray, List.set_cons_zero, List.set_cons_succ]
          have hG : At (w6.alloc (.cells #[.int .i64 k, .int .i64 t, .string d] 23)) (w6.heap.size) #[.int .i64 k, .int .i64 t, .string d] := by
            have hh : w6.heap.size = w6.heap.size := rfl
            have hc := At.box w6 #[.int .i64 k, .int .i64 t, .string d] 23
            rw [hh] at hc
            exact hc
          have hC := hC.later (bel1 w6 (.cells #[.int .i64 k, .int .i64 t, .string d] 23))
          have hz := hz.alloc hz.size (.cells #[.int .i64 k, .int .i64 t, .string d] 23)
          refine wpAnyH_ready (rs := [9]) (by kernel_rfl) (by simp) ?_
          refine AllReadyH.cons (o := ({ dst := some 32, op := Go.Op.call { callee := Go.Callee.builtin Go.Builtin.append, args := #[Go.Operand.tmp 29, Go.Operand.tmp 31], argTypes := #[29, 29] }, type := 29, pos := "ref.go:89", after := #[{ on := 6, ground := Go.Ground.data }, { on := 8, ground := Go.Ground.data }, { on := 6, ground := Go.Ground.chain }], guard := none } : Go.Oper)) rfl (fun K hK => ?_) AllReadyH.nil
          · obtain ⟨v9, w9, hrun9, hC9, hz9⟩ := pushE hz rfl hC hG (by omega) 29
            obtain ⟨L2, hL2⟩ : ∃ L2, l ++ [Ev.mk k t d] = L2 := ⟨_, rfl⟩
            rw [hL2] at hC9
            have hlen : Hid (L2.length = l.length + 1) := by show L2.length = l.length + 1; rw [← hL2]; simp
            obtain ⟨a9, n9, rfl⟩ := hC9.shape
            refine step_append_str (by rfl) _ _ (by rfl) (by rfl) (by rfl) hrun9 ?_
            refine hK.out _ _ (hX.later hz9) (fun hHeld => ?_)
            clear hK K
            try simp only [Act.put, List.setIfInBounds_toArray, List.set_cons_zero, List.set_cons_succ]
            refine wpAnyH_take (i := 10) (oi := ({ dst := some 33, op := Go.Op.nilCheck (Go.Operand.tmp 23), type := 0, pos := "ref.go:89", after := #[{ on := 0, ground := Go.Ground.data }, { on := 0, ground := Go.Ground.phase }, { on := 1, ground := Go.Ground.phase }, { on := 2, ground := Go.Ground.phase }, { on := 3, ground := Go.Ground.phase }, { on := 4, ground := Go.Ground.phase }, { on := 5, ground := Go.Ground.phase }, { on := 6, ground := Go.Ground.phase }, { on := 7, ground := Go.Ground.phase }, { on := 8, ground := Go.Ground.phase }, { on := 9, ground := Go.Ground.phase }], guard := none } : Go.Oper)) (v := .pointer (some ⟨b, 0, none⟩)) rfl (by kernel_rfl) (by kernel_rfl) (by kernel_rfl) (fun _ _ _ h => h) (Or.inl ⟨by rfl, ?_⟩) (by assumption) ?_
            · intro wx hSw
              try dsimp only at hSw
              obtain ⟨⟨x0, x1, x2⟩, -, -⟩ := hSw.three
              go_simp
              try with_reducible rfl
            try simp only [Act.put, List.setIfInBounds_toArray, List.set_cons_zero, List.set_cons_succ]
            refine wpAnyH_take (i := 11) (oi := ({ dst := some 34, op := Go.Op.fieldAddr 41 (Go.Operand.tmp 33) 0, type := 0, pos := "ref.go:89", after := #[{ on := 10, ground := Go.Ground.data }, { on := 0, ground := Go.Ground.phase }, { on := 1, ground := Go.Ground.phase }, { on := 2, ground := Go.Ground.phase }, { on := 3, ground := Go.Ground.phase }, { on := 4, ground := Go.Ground.phase }, { on := 5, ground := Go.Ground.phase }, { on := 6, ground := Go.Ground.phase }, { on := 7, ground := Go.Ground.phase }, { on := 8, ground := Go.Ground.phase }, { on := 9, ground := Go.Ground.phase }], guard := none } : Go.Oper)) (v := .pointer (some ⟨b, 0, none⟩)) rfl (by kernel_rfl) (by kernel_rfl) (by kernel_rfl) (fun _ _ _ h => h) (Or.inl ⟨by rfl, ?_⟩) (by assumption) ?_
            · intro wx hSw
              try dsimp only at hSw
              obtain ⟨⟨x0, x1, x2⟩, -, -⟩ := hSw.three
              go_simp
              try with_reducible rfl
            try simp only [Act.put, List.setIfInBounds_toArray, List.set_cons_zero, List.set_cons_succ]
            refine wpAnyH_ready (rs := [12]) (by kernel_rfl) (by simp) ?_
            refine AllReadyH.cons (o := ({ dst := none, op := Go.Op.store 29 (Go.Operand.tmp 34) (Go.Operand.tmp 32), type := 0, pos := "ref.go:89", after := #[{ on := 11, ground := Go.Ground.data }, { on := 9, ground := Go.Ground.data }, { on := 9, ground := Go.Ground.chain }, { on := 0, ground := Go.Ground.phase }, { on := 1, ground := Go.Ground.phase }, { on := 2, ground := Go.Ground.phase }, { on := 3, ground := Go.Ground.phase }, { on := 4, ground := Go.Ground.phase }, { on := 5, ground := Go.Ground.phase }, { on := 6, ground := Go.Ground.phase }, { on := 7, ground := Go.Ground.phase }, { on := 8, ground := Go.Ground.phase }, { on := 9, ground := Go.Ground.phase }], guard := none } : Go.Oper)) rfl (fun K hK => ?_) AllReadyH.nil
            · obtain ⟨k31, k32⟩ := (hL.at_.later hz9).one
              have hXc := (hX.later hz9).turn (turn_set w9 b 0 (.slice a9 L2.length n9)) (by omega)
              go_simp
              refine hK.out _ _ hXc (fun hHeld => ?_)
              clear hK K
              try simp only [Act.put, List.setIfInBounds_toArray, List.set_cons_zero, List.set_cons_succ]
              refine wpAnyH_done (by kernel_rfl) ?_ _
              have hB9 := (hL.at_.later hz9).set 0 (.slice a9 L2.length n9)
              have hE9 := hC9.turn (turn_set w9 b 0 (.slice a9 L2.length n9)) (fun j hj e => by have := hC9.ge j hj; omega)
              have hT9 := (Turn.of_below (S := fun j => j = b) (w := w3.drew) (w' := w9) hz9).trans (turn_set w9 b 0 (.slice a9 L2.length n9))
              have hB9' : At (w9.setCell ⟨b, 0, none⟩ (.slice a9 L2.length n9)) b #[.slice a9 L2.length n9] := hB9
              obtain ⟨y0, -⟩ := hB9'.one
              have HT : Hid (Turn (fun j => j = b) w3.drew (w9.setCell ⟨b, 0, none⟩ (.slice a9 L2.length n9))) := hT9
              clear hT9 hB9 hz hz9
              go_wp2
              go_ret2
              refine ⟨_, by rw [show L2.length = l.length + 1 from hlen]; rfl, hB9', by rw [hL2]; exact hE9.low hsz, (Turn.of_below hl).trans HT⟩
      · go_simp
        refine hK.out _ _ (hX.later (hz.alloc hz.size (.cells #[.int .i64 k, .int .i64 t, .string d] 23))) (fun hHeld => ?_)
        clear hK K
        try simp only [Act.put, List.setIfInBounds_toArray, List.set_cons_zero, List.set_cons_succ]
        have hG : At ((w3.drew.alloc (.cells #[] 23)).alloc (.cells #[.int .i64 k, .int .i64 t, .string d] 23)) (w3.heap.size + 1) #[.int .i64 k, .int .i64 t, .string d] := by
          have hh : (w3.drew.alloc (.cells #[] 23)).heap.size = w3.heap.size + 1 := (World.size_alloc _ _)
          have hc := At.box (w3.drew.alloc (.cells #[] 23)) #[.int .i64 k, .int .i64 t, .string d] 23
          rw [hh] at hc
          exact hc
        have hC := hC.later (bel1 (w3.drew.alloc (.cells #[] 23)) (.cells #[.int .i64 k, .int .i64 t, .string d] 23))
        have hz := hz.alloc hz.size (.cells #[.int .i64 k, .int .i64 t, .string d] 23)
        refine wpAnyH_ready (rs := [6]) (by kernel_rfl) (by simp) ?_
        refine AllReadyH.cons (o := ({ dst := some 29, op := Go.Op.call { callee := Go.Callee.builtin Go.Builtin.append, args := #[Go.Operand.tmp 24, Go.Operand.tmp 28], argTypes := #[29, 29] }, type := 29, pos := "ref.go:89", after := #[{ on := 1, ground := Go.Ground.data }, { on := 5, ground := Go.Ground.data }], guard := none } : Go.Oper)) rfl (fun K hK => ?_) AllReadyH.nil
        · obtain ⟨c6, w6, hrun, hC6, hz6, ht6⟩ := cloneE hz rfl hL.eo (by omega) hC hn 29
          obtain ⟨a6, n6, rfl⟩ := hC6.shape
          refine step_append_str (by rfl) _ _ (by rfl) (by rfl) (by rfl) hrun ?_
          refine hK.out _ _ (hX.later hz6) (fun hHeld => ?_)
          clear hK K
          try simp only [Act.put, List.setIfInBounds_toArray, List.set_cons_zero, List.set_cons_succ]
          have hG := hG.turn ht6 (fun e => by injection e with e; omega)
          have hz := hz6
          have hC := hC6
          clear hz6 hC6 ht6 hrun
          refine wpAnyH_ready (rs := [9]) (by kernel_rfl) (by simp) ?_
          refine AllReadyH.cons (o := ({ dst := some 32, op := Go.Op.call { callee := Go.Callee.builtin Go.Builtin.append, args := #[Go.Operand.tmp 29, Go.Operand.tmp 31], argTypes := #[29, 29] }, type := 29, pos := "ref.go:89", after := #[{ on := 6, ground := Go.Ground.data }, { on := 8, ground := Go.Ground.data }, { on := 6, ground := Go.Ground.chain }], guard := none } : Go.Oper)) rfl (fun K hK => ?_) AllReadyH.nil
          · obtain ⟨v9, w9, hrun9, hC9, hz9⟩ := pushE hz rfl hC hG (by omega) 29
            obtain ⟨L2, hL2⟩ : ∃ L2, l ++ [Ev.mk k t d] = L2 := ⟨_, rfl⟩
            rw [hL2] at hC9
            have hlen : Hid (L2.length = l.length + 1) := by show L2.length = l.length + 1; rw [← hL2]; simp
            obtain ⟨a9, n9, rfl⟩ := hC9.shape
            refine step_append_str (by rfl) _ _ (by rfl) (by rfl) (by rfl) hrun9 ?_
            refine hK.out _ _ (hX.later hz9) (fun hHeld => ?_)
            clear hK K
            try simp only [Act.put, List.setIfInBounds_toArray, List.set_cons_zero, List.set_cons_succ]
            refine wpAnyH_take (i := 10) (oi := ({ dst := some 33, op := Go.Op.nilCheck (Go.Operand.tmp 23), type := 0, pos := "ref.go:89", after := #[{ on := 0, ground := Go.Ground.data }, { on := 0, ground := Go.Ground.phase }, { on := 1, ground := Go.Ground.phase }, { on := 2, ground := Go.Ground.phase }, { on := 3, ground := Go.Ground.phase }, { on := 4, ground := Go.Ground.phase }, { on := 5, ground := Go.Ground.phase }, { on := 6, ground := Go.Ground.phase }, { on := 7, ground := Go.Ground.phase }, { on := 8, ground := Go.Ground.phase }, { on := 9, ground := Go.Ground.phase }], guard := none } : Go.Oper)) (v := .pointer (some ⟨b, 0, none⟩)) rfl (by kernel_rfl) (by kernel_rfl) (by kernel_rfl) (fun _ _ _ h => h) (Or.inl ⟨by rfl, ?_⟩) (by assumption) ?_
            · intro wx hSw
              try dsimp only at hSw
              obtain ⟨⟨x0, x1, x2⟩, -, -⟩ := hSw.three
              go_simp
              try with_reducible rfl
            try simp only [Act.put, List.setIfInBounds_toArray, List.set_cons_zero, List.set_cons_succ]
            refine wpAnyH_take (i := 11) (oi := ({ dst := some 34, op := Go.Op.fieldAddr 41 (Go.Operand.tmp 33) 0, type := 0, pos := "ref.go:89", after := #[{ on := 10, ground := Go.Ground.data }, { on := 0, ground := Go.Ground.phase }, { on := 1, ground := Go.Ground.phase }, { on := 2, ground := Go.Ground.phase }, { on := 3, ground := Go.Ground.phase }, { on := 4, ground := Go.Ground.phase }, { on := 5, ground := Go.Ground.phase }, { on := 6, ground := Go.Ground.phase }, { on := 7, ground := Go.Ground.phase }, { on := 8, ground := Go.Ground.phase }, { on := 9, ground := Go.Ground.phase }], guard := none } : Go.Oper)) (v := .pointer (some ⟨b, 0, none⟩)) rfl (by kernel_rfl) (by kernel_rfl) (by kernel_rfl) (fun _ _ _ h => h) (Or.inl ⟨by rfl, ?_⟩) (by assumption) ?_
            · intro wx hSw
              try dsimp only at hSw
              obtain ⟨⟨x0, x1, x2⟩, -, -⟩ := hSw.three
              go_simp
              try with_reducible rfl
            try simp only [Act.put, List.setIfInBounds_toArray, List.set_cons_zero, List.set_cons_succ]
            refine wpAnyH_ready (rs := [12]) (by kernel_rfl) (by simp) ?_
            refine AllReadyH.cons (o := ({ dst := none, op := Go.Op.store 29 (Go.Operand.tmp 34) (Go.Operand.tmp 32), type := 0, pos := "ref.go:89", after := #[{ on := 11, ground := Go.Ground.data }, { on := 9, ground := Go.Ground.data }, { on := 9, ground := Go.Ground.chain }, { on := 0, ground := Go.Ground.phase }, { on := 1, ground := Go.Ground.phase }, { on := 2, ground := Go.Ground.phase }, { on := 3, ground := Go.Ground.phase }, { on := 4, ground := Go.Ground.phase }, { on := 5, ground := Go.Ground.phase }, { on := 6, ground := Go.Ground.phase }, { on := 7, ground := Go.Ground.phase }, { on := 8, ground := Go.Ground.phase }, { on := 9, ground := Go.Ground.phase }], guard := none } : Go.Oper)) rfl (fun K hK => ?_) AllReadyH.nil
            · obtain ⟨k31, k32⟩ := (hL.at_.later hz9).one
              have hXc := (hX.later hz9).turn (turn_set w9 b 0 (.slice a9 L2.length n9)) (by omega)
              go_simp
              refine hK.out _ _ hXc (fun hHeld => ?_)
              clear hK K
              try simp only [Act.put, List.setIfInBounds_toArray, List.set_cons_zero, List.set_cons_succ]
              refine wpAnyH_done (by kernel_rfl) ?_ _
              have hB9 := (hL.at_.later hz9).set 0 (.slice a9 L2.length n9)
              have hE9 := hC9.turn (turn_set w9 b 0 (.slice a9 L2.length n9)) (fun j hj e => by have := hC9.ge j hj; omega)
              have hT9 := (Turn.of_below (S := fun j => j = b) (w := w3.drew) (w' := w9) hz9).trans (turn_set w9 b 0 (.slice a9 L2.length n9))
              have hB9' : At (w9.setCell ⟨b, 0, none⟩ (.slice a9 L2.length n9)) b #[.slice a9 L2.length n9] := hB9
              obtain ⟨y0, -⟩ := hB9'.one
              have HT : Hid (Turn (fun j => j = b) w3.drew (w9.setCell ⟨b, 0, none⟩ (.slice a9 L2.length n9))) := hT9
              clear hT9 hB9 hz hz9
              go_wp2
              go_ret2
              refine ⟨_, by rw [show L2.length = l.length + 1 from hlen]; rfl, hB9', by rw [hL2]; exact hE9.low hsz, (Turn.of_below hl).trans HT⟩
    · go_simp
      refine hK.out _ _ (hX.later (hz.alloc hz.size (.cells #[.int .i64 k, .int .i64 t, .string d] 23))) (fun hHeld => ?_)
      clear hK K
      try simp only [Act.put, List.setIfInBounds_toArray, List.set_cons_zero, List.set_cons_succ]
      have hG : At (w3.drew.alloc (.cells #[.int .i64 k, .int .i64 t, .string d] 23)) (w3.heap.size) #[.int .i64 k, .int .i64 t, .string d] := by
        have hh : w3.drew.heap.size = w3.heap.size := rfl
        have hc := At.box w3.drew #[.int .i64 k, .int .i64 t, .string d] 23
        rw [hh] at hc
        exact hc
      have hz := hz.alloc hz.size (.cells #[.int .i64 k, .int .i64 t, .string d] 23)
      refine wpAnyH_ready (rs := [1]) (by kernel_rfl) (by simp) ?_
      refine AllReadyH.cons (o := ({ dst := some 24, op := Go.Op.buildSlice 29 0 #[], type := 29, pos := "ref.go:89", after := #[], guard := none } : Go.Oper)) rfl (fun K hK => ?_) AllReadyH.nil
      · go_simp
        refine hK.out _ _ (hX.later (hz.alloc hz.size (.cells #[] 23))) (fun hHeld => ?_)
        clear hK K
        try simp only [Act.put, List.setIfInBounds_toArray, List.set_cons_zero, List.set_cons_succ]
        have hC : EO ((w3.drew.alloc (.cells #[.int .i64 k, .int .i64 t, .string d] 23)).alloc (.cells #[] 23)) w3.heap.size (.slice (some ⟨w3.heap.size + 1, 0, none⟩) 0 0) [] := by
          have hh : (w3.drew.alloc (.cells #[.int .i64 k, .int .i64 t, .string d] 23)).heap.size = w3.heap.size + 1 := (World.size_alloc _ _)
          have hc := (EO.made (w3.drew.alloc (.cells #[.int .i64 k, .int .i64 t, .string d] 23))).low (b' := w3.heap.size) hz.size
          rw [hh] at hc
          exact hc
        have hG := hG.later (bel1 (w3.drew.alloc (.cells #[.int .i64 k, .int .i64 t, .string d] 23)) (.cells #[] 23))
        have hz := hz.alloc hz.size (.cells #[] 23)
        refine wpAnyH_ready (rs := [6]) (by kernel_rfl) (by simp) ?_
        refine AllReadyH.cons (o := ({ dst := some 29, op := Go.Op.call { callee := Go.Callee.builtin Go.Builtin.append, args := #[Go.Operand.tmp 24, Go.Operand.tmp 28], argTypes := #[29, 29] }, type := 29, pos := "ref.go:89", after := #[{ on := 1, ground := Go.Ground.data }, { on := 5, ground := Go.Ground.data }], guard := none } : Go.Oper)) rfl (fun K hK => ?_) AllReadyH.nil
        · obtain ⟨c6, w6, hrun, hC6, hz6, ht6⟩ := cloneE hz rfl hL.eo (by omega) hC hn 29
          obtain ⟨a6, n6, rfl⟩ := hC6.shape
          refine step_append_str (by rfl) _ _ (by rfl) (by rfl) (by rfl) hrun ?_
          refine hK.out _ _ (hX.later hz6) (fun hHeld => ?_)
          clear hK K
          try simp only [Act.put, List.setIfInBounds_toArray, List.set_cons_zero, List.set_cons_succ]
          have hG := hG.turn ht6 (fun e => by injection e with e; omega)
          have hz := hz6
          have hC := hC6
          clear hz6 hC6 ht6 hrun
          refine wpAnyH_ready (rs := [9]) (by kernel_rfl) (by simp) ?_
          refine AllReadyH.cons (o := ({ dst := some 32, op := Go.Op.call { callee := Go.Callee.builtin Go.Builtin.append, args := #[Go.Operand.tmp 29, Go.Operand.tmp 31], argTypes := #[29, 29] }, type := 29, pos := "ref.go:89", after := #[{ on := 6, ground := Go.Ground.data }, { on := 8, ground := Go.Ground.data }, { on := 6, ground := Go.Ground.chain }], guard := none } : Go.Oper)) rfl (fun K hK => ?_) AllReadyH.nil
          · obtain ⟨v9, w9, hrun9, hC9, hz9⟩ := pushE hz rfl hC hG (by omega) 29
            obtain ⟨L2, hL2⟩ : ∃ L2, l ++ [Ev.mk k t d] = L2 := ⟨_, rfl⟩
            rw [hL2] at hC9
            have hlen : Hid (L2.length = l.length + 1) := by show L2.length = l.length + 1; rw [← hL2]; simp
            obtain ⟨a9, n9, rfl⟩ := hC9.shape
            refine step_append_str (by rfl) _ _ (by rfl) (by rfl) (by rfl) hrun9 ?_
            refine hK.out _ _ (hX.later hz9) (fun hHeld => ?_)
            clear hK K
            try simp only [Act.put, List.setIfInBounds_toArray, List.set_cons_zero, List.set_cons_succ]
            refine wpAnyH_take (i := 10) (oi := ({ dst := some 33, op := Go.Op.nilCheck (Go.Operand.tmp 23), type := 0, pos := "ref.go:89", after := #[{ on := 0, ground := Go.Ground.data }, { on := 0, ground := Go.Ground.phase }, { on := 1, ground := Go.Ground.phase }, { on := 2, ground := Go.Ground.phase }, { on := 3, ground := Go.Ground.phase }, { on := 4, ground := Go.Ground.phase }, { on := 5, ground := Go.Ground.phase }, { on := 6, ground := Go.Ground.phase }, { on := 7, ground := Go.Ground.phase }, { on := 8, ground := Go.Ground.phase }, { on := 9, ground := Go.Ground.phase }], guard := none } : Go.Oper)) (v := .pointer (some ⟨b, 0, none⟩)) rfl (by kernel_rfl) (by kernel_rfl) (by kernel_rfl) (fun _ _ _ h => h) (Or.inl ⟨by rfl, ?_⟩) (by assumption) ?_
            · intro wx hSw
              try dsimp only at hSw
              obtain ⟨⟨x0, x1, x2⟩, -, -⟩ := hSw.three
              go_simp
              try with_reducible rfl
            try simp only [Act.put, List.setIfInBounds_toArray, List.set_cons_zero, List.set_cons_succ]
            refine wpAnyH_take (i := 11) (oi := ({ dst := some 34, op := Go.Op.fieldAddr 41 (Go.Operand.tmp 33) 0, type := 0, pos := "ref.go:89", after := #[{ on := 10, ground := Go.Ground.data }, { on := 0, ground := Go.Ground.phase }, { on := 1, ground := Go.Ground.phase }, { on := 2, ground := Go.Ground.phase }, { on := 3, ground := Go.Ground.phase }, { on := 4, ground := Go.Ground.phase }, { on := 5, ground := Go.Ground.phase }, { on := 6, ground := Go.Ground.phase }, { on := 7, ground := Go.Ground.phase }, { on := 8, ground := Go.Ground.phase }, { on := 9, ground := Go.Ground.phase }], guard := none } : Go.Oper)) (v := .pointer (some ⟨b, 0, none⟩)) rfl (by kernel_rfl) (by kernel_rfl) (by kernel_rfl) (fun _ _ _ h => h) (Or.inl ⟨by rfl, ?_⟩) (by assumption) ?_
            · intro wx hSw
              try dsimp only at hSw
              obtain ⟨⟨x0, x1, x2⟩, -, -⟩ := hSw.three
              go_simp
              try with_reducible rfl
            try simp only [Act.put, List.setIfInBounds_toArray, List.set_cons_zero, List.set_cons_succ]
            refine wpAnyH_ready (rs := [12]) (by kernel_rfl) (by simp) ?_
            refine AllReadyH.cons (o := ({ dst := none, op := Go.Op.store 29 (Go.Operand.tmp 34) (Go.Operand.tmp 32), type := 0, pos := "ref.go:89", after := #[{ on := 11, ground := Go.Ground.data }, { on := 9, ground := Go.Ground.data }, { on := 9, ground := Go.Ground.chain }, { on := 0, ground := Go.Ground.phase }, { on := 1, ground := Go.Ground.phase }, { on := 2, ground := Go.Ground.phase }, { on := 3, ground := Go.Ground.phase }, { on := 4, ground := Go.Ground.phase }, { on := 5, ground := Go.Ground.phase }, { on := 6, ground := Go.Ground.phase }, { on := 7, ground := Go.Ground.phase }, { on := 8, ground := Go.Ground.phase }, { on := 9, ground := Go.Ground.phase }], guard := none } : Go.Oper)) rfl (fun K hK => ?_) AllReadyH.nil
            · obtain ⟨k31, k32⟩ := (hL.at_.later hz9).one
              have hXc := (hX.later hz9).turn (turn_set w9 b 0 (.slice a9 L2.length n9)) (by omega)
              go_simp
              refine hK.out _ _ hXc (fun hHeld => ?_)
              clear hK K
              try simp only [Act.put, List.setIfInBounds_toArray, List.set_cons_zero, List.set_cons_succ]
              refine wpAnyH_done (by kernel_rfl) ?_ _
              have hB9 := (hL.at_.later hz9).set 0 (.slice a9 L2.length n9)
              have hE9 := hC9.turn (turn_set w9 b 0 (.slice a9 L2.length n9)) (fun j hj e => by have := hC9.ge j hj; omega)
              have hT9 := (Turn.of_below (S := fun j => j = b) (w := w3.drew) (w' := w9) hz9).trans (turn_set w9 b 0 (.slice a9 L2.length n9))
              have hB9' : At (w9.setCell ⟨b, 0, none⟩ (.slice a9 L2.length n9)) b #[.slice a9 L2.length n9] := hB9
              obtain ⟨y0, -⟩ := hB9'.one
              have HT : Hid (Turn (fun j => j = b) w3.drew (w9.setCell ⟨b, 0, none⟩ (.slice a9 L2.length n9))) := hT9
              clear hT9 hB9 hz hz9
              go_wp2
              go_ret2
              refine ⟨_, by rw [show L2.length = l.length + 1 from hlen]; rfl, hB9', by rw [hL2]; exact hE9.low hsz, (Turn.of_below hl).trans HT⟩
  · go_simp
    refine hK.out _ _ (hX.later (hz.alloc hz.size (.cells #[.int .i64 k, .int .i64 t, .string d] 23))) (fun hHeld => ?_)
    clear hK K
    try simp only [Act.put, List.setIfInBounds_toArray, List.set_cons_zero, List.set_cons_succ]
    have hG : At (w3.drew.alloc (.cells #[.int .i64 k, .int .i64 t, .string d] 23)) (w3.heap.size) #[.int .i64 k, .int .i64 t, .string d] := by
      have hh : w3.drew.heap.size = w3.heap.size := rfl
      have hc := At.box w3.drew #[.int .i64 k, .int .i64 t, .string d] 23
      rw [hh] at hc
      exact hc
    have hz := hz.alloc hz.size (.cells #[.int .i64 k, .int .i64 t, .string d] 23)
    refine wpAnyH_ready (rs := [1, 5]) (by kernel_rfl) (by simp) ?_
    refine AllReadyH.cons (o := ({ dst := some 24, op := Go.Op.buildSlice 29 0 #[], type := 29, pos := "ref.go:89", after := #[], guard := none } : Go.Oper)) rfl (fun K hK => ?_) (AllReadyH.cons (o := ({ dst := some 28, op := Go.Op.load 29 (Go.Operand.tmp 27), type := 29, pos := "ref.go:89", after := #[{ on := 4, ground := Go.Ground.data }], guard := none } : Go.Oper)) rfl (fun K hK => ?_) AllReadyH.nil)
    · go_simp
      refine hK.out _ _ (hX.later (hz.alloc hz.size (.cells #[] 23))) (fun hHeld => ?_)
      clear hK K
      try simp only [Act.put, List.setIfInBounds_toArray, List.set_cons_zero, List.set_cons_succ]
      have hC : EO ((w3.drew.alloc (.cells #[.int .i64 k, .int .i64 t, .string d] 23)).alloc (.cells #[] 23)) w3.heap.size (.slice (some ⟨w3.heap.size + 1, 0, none⟩) 0 0) [] := by
        have hh : (w3.drew.alloc (.cells #[.int .i64 k, .int .i64 t, .string d] 23)).heap.size = w3.heap.size + 1 := (World.size_alloc _ _)
        have hc := (EO.made (w3.drew.alloc (.cells #[.int .i64 k, .int .i64 t, .string d] 23))).low (b' := w3.heap.size) hz.size
        rw [hh] at hc
        exact hc
      have hG := hG.later (bel1 (w3.drew.alloc (.cells #[.int .i64 k, .int .i64 t, .string d] 23)) (.cells #[] 23))
      have hz := hz.alloc hz.size (.cells #[] 23)
      refine wpAnyH_ready (rs := [5]) (by kernel_rfl) (by simp) ?_
      refine AllReadyH.cons (o := ({ dst := some 28, op := Go.Op.load 29 (Go.Operand.tmp 27), type := 29, pos := "ref.go:89", after := #[{ on := 4, ground := Go.Ground.data }], guard := none } : Go.Oper)) rfl (fun K hK => ?_) AllReadyH.nil
      · have q0 := (hL.at_.later hz).one.1
        have q1 : ((w3.alloc (.cells #[.int .i64 k, .int .i64 t, .string d] 23)).alloc (.cells #[] 23)).drew.cell? ⟨b, 0, none⟩ = some (.slice a l.length c) := q0
        go_simp
        refine hK.out _ _ hHeld (fun hHeld => ?_)
        clear hK K
        try simp only [Act.put, List.setIfInBounds_toArray, List.set_cons_zero, List.set_cons_succ]
        refine wpAnyH_ready (rs := [6]) (by kernel_rfl) (by simp) ?_
        refine AllReadyH.cons (o := ({ dst := some 29, op := Go.Op.call { callee := Go.Callee.builtin Go.Builtin.append, args := #[Go.Operand.tmp 24, Go.Operand.tmp 28], argTypes := #[29, 29] }, type := 29, pos := "ref.go:89", after := #[{ on := 1, ground := Go.Ground.data }, { on := 5, ground := Go.Ground.data }], guard := none } : Go.Oper)) rfl (fun K hK => ?_) AllReadyH.nil
        · obtain ⟨c6, w6, hrun, hC6, hz6, ht6⟩ := cloneE hz rfl hL.eo (by omega) hC hn 29
          obtain ⟨a6, n6, rfl⟩ := hC6.shape
          refine step_append_str (by rfl) _ _ (by rfl) (by rfl) (by rfl) hrun ?_
          refine hK.out _ _ (hX.later hz6) (fun hHeld => ?_)
          clear hK K
          try simp only [Act.put, List.setIfInBounds_toArray, List.set_cons_zero, List.set_cons_succ]
          have hG := hG.turn ht6 (fun e => by injection e with e; omega)
          have hz := hz6
          have hC := hC6
          clear hz6 hC6 ht6 hrun
          refine wpAnyH_ready (rs := [9]) (by kernel_rfl) (by simp) ?_
          refine AllReadyH.cons (o := ({ dst := some 32, op := Go.Op.call { callee := Go.Callee.builtin Go.Builtin.append, args := #[Go.Operand.tmp 29, Go.Operand.tmp 31], argTypes := #[29, 29] }, type := 29, pos := "ref.go:89", after := #[{ on := 6, ground := Go.Ground.data }, { on := 8, ground := Go.Ground.data }, { on := 6, ground := Go.Ground.chain }], guard := none } : Go.Oper)) rfl (fun K hK => ?_) AllReadyH.nil
          · obtain ⟨v9, w9, hrun9, hC9, hz9⟩ := pushE hz rfl hC hG (by omega) 29
            obtain ⟨L2, hL2⟩ : ∃ L2, l ++ [Ev.mk k t d] = L2 := ⟨_, rfl⟩
            rw [hL2] at hC9
            have hlen : Hid (L2.length = l.length + 1) := by show L2.length = l.length + 1; rw [← hL2]; simp
            obtain ⟨a9, n9, rfl⟩ := hC9.shape
            refine step_append_str (by rfl) _ _ (by rfl) (by rfl) (by rfl) hrun9 ?_
            refine hK.out _ _ (hX.later hz9) (fun hHeld => ?_)
            clear hK K
            try simp only [Act.put, List.setIfInBounds_toArray, List.set_cons_zero, List.set_cons_succ]
            refine wpAnyH_take (i := 10) (oi := ({ dst := some 33, op := Go.Op.nilCheck (Go.Operand.tmp 23), type := 0, pos := "ref.go:89", after := #[{ on := 0, ground := Go.Ground.data }, { on := 0, ground := Go.Ground.phase }, { on := 1, ground := Go.Ground.phase }, { on := 2, ground := Go.Ground.phase }, { on := 3, ground := Go.Ground.phase }, { on := 4, ground := Go.Ground.phase }, { on := 5, ground := Go.Ground.phase }, { on := 6, ground := Go.Ground.phase }, { on := 7, ground := Go.Ground.phase }, { on := 8, ground := Go.Ground.phase }, { on := 9, ground := Go.Ground.phase }], guard := none } : Go.Oper)) (v := .pointer (some ⟨b, 0, none⟩)) rfl (by kernel_rfl) (by kernel_rfl) (by kernel_rfl) (fun _ _ _ h => h) (Or.inl ⟨by rfl, ?_⟩) (by assumption) ?_
            · intro wx hSw
              try dsimp only at hSw
              obtain ⟨⟨x0, x1, x2⟩, -, -⟩ := hSw.three
              go_simp
              try with_reducible rfl
            try simp only [Act.put, List.setIfInBounds_toArray, List.set_cons_zero, List.set_cons_succ]
            refine wpAnyH_take (i := 11) (oi := ({ dst := some 34, op := Go.Op.fieldAddr 41 (Go.Operand.tmp 33) 0, type := 0, pos := "ref.go:89", after := #[{ on := 10, ground := Go.Ground.data }, { on := 0, ground := Go.Ground.phase }, { on := 1, ground := Go.Ground.phase }, { on := 2, ground := Go.Ground.phase }, { on := 3, ground := Go.Ground.phase }, { on := 4, ground := Go.Ground.phase }, { on := 5, ground := Go.Ground.phase }, { on := 6, ground := Go.Ground.phase }, { on := 7, ground := Go.Ground.phase }, { on := 8, ground := Go.Ground.phase }, { on := 9, ground := Go.Ground.phase }], guard := none } : Go.Oper)) (v := .pointer (some ⟨b, 0, none⟩)) rfl (by kernel_rfl) (by kernel_rfl) (by kernel_rfl) (fun _ _ _ h => h) (Or.inl ⟨by rfl, ?_⟩) (by assumption) ?_
            · intro wx hSw
              try dsimp only at hSw
              obtain ⟨⟨x0, x1, x2⟩, -, -⟩ := hSw.three
              go_simp
              try with_reducible rfl
            try simp only [Act.put, List.setIfInBounds_toArray, List.set_cons_zero, List.set_cons_succ]
            refine wpAnyH_ready (rs := [12]) (by kernel_rfl) (by simp) ?_
            refine AllReadyH.cons (o := ({ dst := none, op := Go.Op.store 29 (Go.Operand.tmp 34) (Go.Operand.tmp 32), type := 0, pos := "ref.go:89", after := #[{ on := 11, ground := Go.Ground.data }, { on := 9, ground := Go.Ground.data }, { on := 9, ground := Go.Ground.chain }, { on := 0, ground := Go.Ground.phase }, { on := 1, ground := Go.Ground.phase }, { on := 2, ground := Go.Ground.phase }, { on := 3, ground := Go.Ground.phase }, { on := 4, ground := Go.Ground.phase }, { on := 5, ground := Go.Ground.phase }, { on := 6, ground := Go.Ground.phase }, { on := 7, ground := Go.Ground.phase }, { on := 8, ground := Go.Ground.phase }, { on := 9, ground := Go.Ground.phase }], guard := none } : Go.Oper)) rfl (fun K hK => ?_) AllReadyH.nil
            · obtain ⟨k31, k32⟩ := (hL.at_.later hz9).one
              have hXc := (hX.later hz9).turn (turn_set w9 b 0 (.slice a9 L2.length n9)) (by omega)
              go_simp
              refine hK.out _ _ hXc (fun hHeld => ?_)
              clear hK K
              try simp only [Act.put, List.setIfInBounds_toArray, List.set_cons_zero, List.set_cons_succ]
              refine wpAnyH_done (by kernel_rfl) ?_ _
              have hB9 := (hL.at_.later hz9).set 0 (.slice a9 L2.length n9)
              have hE9 := hC9.turn (turn_set w9 b 0 (.slice a9 L2.length n9)) (fun j hj e => by have := hC9.ge j hj; omega)
              have hT9 := (Turn.of_below (S := fun j => j = b) (w := w3.drew) (w' := w9) hz9).trans (turn_set w9 b 0 (.slice a9 L2.length n9))
              have hB9' : At (w9.setCell ⟨b, 0, none⟩ (.slice a9 L2.length n9)) b #[.slice a9 L2.length n9] := hB9
              obtain ⟨y0, -⟩ := hB9'.one
              have HT : Hid (Turn (fun j => j = b) w3.drew (w9.setCell ⟨b, 0, none⟩ (.slice a9 L2.length n9))) := hT9
              clear hT9 hB9 hz hz9
              go_wp2
              go_ret2
              refine ⟨_, by rw [show L2.length = l.length + 1 from hlen]; rfl, hB9', by rw [hL2]; exact hE9.low hsz, (Turn.of_below hl).trans HT⟩
    · have q0 := (hL.at_.later hz).one.1
      have q1 : (w3.alloc (.cells #[.int .i64 k, .int .i64 t, .string d] 23)).drew.cell? ⟨b, 0, none⟩ = some (.slice a l.length c) := q0
      go_simp
      refine hK.out _ _ hHeld (fun hHeld => ?_)
      clear hK K
      try simp only [Act.put, List.setIfInBounds_toArray, List.set_cons_zero, List.set_cons_succ]
      refine wpAnyH_ready (rs := [1]) (by kernel_rfl) (by simp) ?_
      refine AllReadyH.cons (o := ({ dst := some 24, op := Go.Op.buildSlice 29 0 #[], type := 29, pos := "ref.go:89", after := #[], guard := none } : Go.Oper)) rfl (fun K hK => ?_) AllReadyH.nil
      · go_simp
        refine hK.out _ _ (hX.later (hz.alloc hz.size (.cells #[] 23))) (fun hHeld => ?_)
        clear hK K
        try simp only [Act.put, List.setIfInBounds_toArray, List.set_cons_zero, List.set_cons_succ]
        have hC : EO ((w3.drew.alloc (.cells #[.int .i64 k, .int .i64 t, .string d] 23)).alloc (.cells #[] 23)) w3.heap.size (.slice (some ⟨w3.heap.size + 1, 0, none⟩) 0 0) [] := by
          have hh : (w3.drew.alloc (.cells #[.int .i64 k, .int .i64 t, .string d] 23)).heap.size = w3.heap.size + 1 := (World.size_alloc _ _)
          have hc := (EO.made (w3.drew.alloc (.cells #[.int .i64 k, .int .i64 t, .string d] 23))).low (b' := w3.heap.size) hz.size
          rw [hh] at hc
          exact hc
        have hG := hG.later (bel1 (w3.drew.alloc (.cells #[.int .i64 k, .int .i64 t, .string d] 23)) (.cells #[] 23))
        have hz := hz.alloc hz.size (.cells #[] 23)
        refine wpAnyH_ready (rs := [6]) (by kernel_rfl) (by simp) ?_
        refine AllReadyH.cons (o := ({ dst := some 29, op := Go.Op.call { callee := Go.Callee.builtin Go.Builtin.append, args := #[Go.Operand.tmp 24, Go.Operand.tmp 28], argTypes := #[29, 29] }, type := 29, pos := "ref.go:89", after := #[{ on := 1, ground := Go.Ground.data }, { on := 5, ground := Go.Ground.data }], guard := none } : Go.Oper)) rfl (fun K hK => ?_) AllReadyH.nil
        · obtain ⟨c6, w6, hrun, hC6, hz6, ht6⟩ := cloneE hz rfl hL.eo (by omega) hC hn 29
          obtain ⟨a6, n6, rfl⟩ := hC6.shape
          refine step_append_str (by rfl) _ _ (by rfl) (by rfl) (by rfl) hrun ?_
          refine hK.out _ _ (hX.later hz6) (fun hHeld => ?_)
          clear hK K
          try simp only [Act.put, List.setIfInBounds_toArray, List.set_cons_zero, List.set_cons_succ]
          have hG := hG.turn ht6 (fun e => by injection e with e; omega)
          have hz := hz6
          have hC := hC6
          clear hz6 hC6 ht6 hrun
          refine wpAnyH_ready (rs := [9]) (by kernel_rfl) (by simp) ?_
          refine AllReadyH.cons (o := ({ dst := some 32, op := Go.Op.call { callee := Go.Callee.builtin Go.Builtin.append, args := #[Go.Operand.tmp 29, Go.Operand.tmp 31], argTypes := #[29, 29] }, type := 29, pos := "ref.go:89", after := #[{ on := 6, ground := Go.Ground.data }, { on := 8, ground := Go.Ground.data }, { on := 6, ground := Go.Ground.chain }], guard := none } : Go.Oper)) rfl (fun K hK => ?_) AllReadyH.nil
          · obtain ⟨v9, w9, hrun9, hC9, hz9⟩ := pushE hz rfl hC hG (by omega) 29
            obtain ⟨L2, hL2⟩ : ∃ L2, l ++ [Ev.mk k t d] = L2 := ⟨_, rfl⟩
            rw [hL2] at hC9
            have hlen : Hid (L2.length = l.length + 1) := by show L2.length = l.length + 1; rw [← hL2]; simp
            obtain ⟨a9, n9, rfl⟩ := hC9.shape
            refine step_append_str (by rfl) _ _ (by rfl) (by rfl) (by rfl) hrun9 ?_
            refine hK.out _ _ (hX.later hz9) (fun hHeld => ?_)
            clear hK K
            try simp only [Act.put, List.setIfInBounds_toArray, List.set_cons_zero, List.set_cons_succ]
            refine wpAnyH_take (i := 10) (oi := ({ dst := some 33, op := Go.Op.nilCheck (Go.Operand.tmp 23), type := 0, pos := "ref.go:89", after := #[{ on := 0, ground := Go.Ground.data }, { on := 0, ground := Go.Ground.phase }, { on := 1, ground := Go.Ground.phase }, { on := 2, ground := Go.Ground.phase }, { on := 3, ground := Go.Ground.phase }, { on := 4, ground := Go.Ground.phase }, { on := 5, ground := Go.Ground.phase }, { on := 6, ground := Go.Ground.phase }, { on := 7, ground := Go.Ground.phase }, { on := 8, ground := Go.Ground.phase }, { on := 9, ground := Go.Ground.phase }], guard := none } : Go.Oper)) (v := .pointer (some ⟨b, 0, none⟩)) rfl (by kernel_rfl) (by kernel_rfl) (by kernel_rfl) (fun _ _ _ h => h) (Or.inl ⟨by rfl, ?_⟩) (by assumption) ?_
            · intro wx hSw
              try dsimp only at hSw
              obtain ⟨⟨x0, x1, x2⟩, -, -⟩ := hSw.three
              go_simp
              try with_reducible rfl
            try simp only [Act.put, List.setIfInBounds_toArray, List.set_cons_zero, List.set_cons_succ]
            refine wpAnyH_take (i := 11) (oi := ({ dst := some 34, op := Go.Op.fieldAddr 41 (Go.Operand.tmp 33) 0, type := 0, pos := "ref.go:89", after := #[{ on := 10, ground := Go.Ground.data }, { on := 0, ground := Go.Ground.phase }, { on := 1, ground := Go.Ground.phase }, { on := 2, ground := Go.Ground.phase }, { on := 3, ground := Go.Ground.phase }, { on := 4, ground := Go.Ground.phase }, { on := 5, ground := Go.Ground.phase }, { on := 6, ground := Go.Ground.phase }, { on := 7, ground := Go.Ground.phase }, { on := 8, ground := Go.Ground.phase }, { on := 9, ground := Go.Ground.phase }], guard := none } : Go.Oper)) (v := .pointer (some ⟨b, 0, none⟩)) rfl (by kernel_rfl) (by kernel_rfl) (by kernel_rfl) (fun _ _ _ h => h) (Or.inl ⟨by rfl, ?_⟩) (by assumption) ?_
            · intro wx hSw
              try dsimp only at hSw
              obtain ⟨⟨x0, x1, x2⟩, -, -⟩ := hSw.three
              go_simp
              try with_reducible rfl
            try simp only [Act.put, List.setIfInBounds_toArray, List.set_cons_zero, List.set_cons_succ]
            refine wpAnyH_ready (rs := [12]) (by kernel_rfl) (by simp) ?_
            refine AllReadyH.cons (o := ({ dst := none, op := Go.Op.store 29 (Go.Operand.tmp 34) (Go.Operand.tmp 32), type := 0, pos := "ref.go:89", after := #[{ on := 11, ground := Go.Ground.data }, { on := 9, ground := Go.Ground.data }, { on := 9, ground := Go.Ground.chain }, { on := 0, ground := Go.Ground.phase }, { on := 1, ground := Go.Ground.phase }, { on := 2, ground := Go.Ground.phase }, { on := 3, ground := Go.Ground.phase }, { on := 4, ground := Go.Ground.phase }, { on := 5, ground := Go.Ground.phase }, { on := 6, ground := Go.Ground.phase }, { on := 7, ground := Go.Ground.phase }, { on := 8, ground := Go.Ground.phase }, { on := 9, ground := Go.Ground.phase }], guard := none } : Go.Oper)) rfl (fun K hK => ?_) AllReadyH.nil
            · obtain ⟨k31, k32⟩ := (hL.at_.later hz9).one
              have hXc := (hX.later hz9).turn (turn_set w9 b 0 (.slice a9 L2.length n9)) (by omega)
              go_simp
              refine hK.out _ _ hXc (fun hHeld => ?_)
              clear hK K
              try simp only [Act.put, List.setIfInBounds_toArray, List.set_cons_zero, List.set_cons_succ]
              refine wpAnyH_done (by kernel_rfl) ?_ _
              have hB9 := (hL.at_.later hz9).set 0 (.slice a9 L2.length n9)
              have hE9 := hC9.turn (turn_set w9 b 0 (.slice a9 L2.length n9)) (fun j hj e => by have := hC9.ge j hj; omega)
              have hT9 := (Turn.of_below (S := fun j => j = b) (w := w3.drew) (w' := w9) hz9).trans (turn_set w9 b 0 (.slice a9 L2.length n9))
              have hB9' : At (w9.setCell ⟨b, 0, none⟩ (.slice a9 L2.length n9)) b #[.slice a9 L2.length n9] := hB9
              obtain ⟨y0, -⟩ := hB9'.one
              have HT : Hid (Turn (fun j => j = b) w3.drew (w9.setCell ⟨b, 0, none⟩ (.slice a9 L2.length n9))) := hT9
              clear hT9 hB9 hz hz9
              go_wp2
              go_ret2
              refine ⟨_, by rw [show L2.length = l.length + 1 from hlen]; rfl, hB9', by rw [hL2]; exact hE9.low hsz, (Turn.of_below hl).trans HT⟩
end Go.Proofs.Ytgjkplkghoeeeaa
