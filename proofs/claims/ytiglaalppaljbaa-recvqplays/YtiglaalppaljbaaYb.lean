/- The document's queue; its New, Window, Read. -/
import Derived.Test.YtiglaalppaljbaaYa
namespace Go.Proofs.Ytiglaalppaljbaa
open Go.RowKit Go.Maps Go.Lib
set_option maxRecDepth 100000
set_option linter.unusedVariables false
set_option linter.unusedSimpArgs false

/-- make in a drawn region. -/
theorem step_mkBo {w : World} {ops : Array Oper} {o : Oper} {a : Act} {K : Act → World → Prop} {Q : Exit → Act → World → Prop} {E : Prop} (hgd : o.guard = none) (x y : Operand) (ho : o.op = .makeSlice 38 x y) (n : Nat) (hn : n ≤ 100000) (hn0 : 0 < n)
    (hx : a.eval x = .int .i64 (n : Int)) (hy : a.eval y = .int .i64 (n : Int)) (h : ∀ g w', VBo w' (.slice (some ⟨g, 0, none⟩) n n) (List.replicate n false) → Below w.heap.size w w' → w.heap.size ≤ g → K (a.put o.dst (.slice (some ⟨g, 0, none⟩) n n)) w') : if Region.wanted o (yielded ops a.tmps) = true then Oper.wp Try.prog o a w K Q else E := by
  have hw : Region.wanted o (yielded ops a.tmps) = true := by simp [Region.wanted, hgd]
  rw [if_pos hw]
  obtain ⟨w', h1, h2, h3⟩ := mkBo w n hn hn0
  unfold Oper.wp
  simp [execOp, ho, hx, hy, h1, Result.andThen]
  exact h _ _ h2 h3 (Nat.le_refl _)
/-- make in a drawn region. -/
theorem step_mkBy {w : World} {ops : Array Oper} {o : Oper} {a : Act} {K : Act → World → Prop} {Q : Exit → Act → World → Prop} {E : Prop} (hgd : o.guard = none) (x y : Operand) (ho : o.op = .makeSlice 39 x y) (n : Nat) (hn : n ≤ 100000) (hn0 : 0 < n)
    (hx : a.eval x = .int .i64 (n : Int)) (hy : a.eval y = .int .i64 (n : Int)) (h : ∀ g w', VBy w' (.slice (some ⟨g, 0, none⟩) n n) (List.replicate n 0) → Below w.heap.size w w' → w.heap.size ≤ g → K (a.put o.dst (.slice (some ⟨g, 0, none⟩) n n)) w') : if Region.wanted o (yielded ops a.tmps) = true then Oper.wp Try.prog o a w K Q else E := by
  have hw : Region.wanted o (yielded ops a.tmps) = true := by simp [Region.wanted, hgd]
  rw [if_pos hw]
  obtain ⟨w', h1, h2, h3⟩ := mkBy w n hn hn0
  unfold Oper.wp
  simp [execOp, ho, hx, hy, h1, Result.andThen]
  exact h _ _ h2 h3 (Nat.le_refl _)

def hereL (Q : Rq) : List Bool := (List.range Q.room).map fun x => (Q.ap x).isSome
def byL (Q : Rq) : List UInt8 := (List.range Q.room).map fun x => (Q.ap x).getD 0
theorem hereL_len (Q : Rq) : (hereL Q).length = Q.room := by unfold hereL; rw [List.length_map, List.length_range]
theorem byL_len (Q : Rq) : (byL Q).length = Q.room := by unfold byL; rw [List.length_map, List.length_range]
theorem hereL_at {Q : Rq} {x : Nat} (h : x < Q.room) : (hereL Q)[x]? = some (Q.ap x).isSome := by unfold hereL; rw [List.getElem?_map, List.getElem?_range h]; rfl
theorem byL_at {Q : Rq} {x : Nat} (h : x < Q.room) : (byL Q)[x]? = some ((Q.ap x).getD 0) := by unfold byL; rw [List.getElem?_map, List.getElem?_range h]; rfl
abbrev ruV (Q : Rq) (vh vb : Value) : Array Value := #[.int .i64 Q.next, .int .i64 (Q.room : Int), .string (strB Q.bs), vh, vb]
structure RY (w : World) (A : Bk) (r : Nat) (Q : Rq) (vh vb : Value) : Prop where
  at5 : At w r (ruV Q vh vb)
  hh : VBo w vh (hereL Q)
  hb : VBy w vb (byL Q)
  ar : A r
  ah : ∀ k, vh.ownBlock = some k → A k ∧ k ≠ r
  ab : ∀ k, vb.ownBlock = some k → A k ∧ k ≠ r
  lw : Lw w A
def RX (w : World) (A : Bk) (r : Nat) (Q : Rq) : Prop := ∃ vh vb, RY w A r Q vh vb
section
variable {w w' : World} {A B : Bk} {r : Nat} {Q : Rq} {vh vb : Value}
theorem RY.turn (h : RY w A r Q vh vb) (ht : Turn B w w') (hd : Dj B A) : RY w' A r Q vh vb :=
  ⟨h.at5.turn ht (fun e => hd r e h.ar), h.hh.turn ht (fun k hk e => hd k e (h.ah k hk).1), h.hb.turn ht (fun k hk e => hd k e (h.ab k hk).1), h.ar, h.ah, h.ab, h.lw.size ht.size⟩
theorem RY.later (h : RY w A r Q vh vb) (hb : Below w.heap.size w w') : RY w' A r Q vh vb := h.turn (B := fun _ => False) (Turn.of_below hb) (fun _ e _ => e)
theorem RX.turn (h : RX w A r Q) (ht : Turn B w w') (hd : Dj B A) : RX w' A r Q := by
  obtain ⟨vh, vb, h⟩ := h
  exact ⟨vh, vb, h.turn ht hd⟩
theorem RX.later (h : RX w A r Q) (hb : Below w.heap.size w w') : RX w' A r Q := by
  obtain ⟨vh, vb, h⟩ := h
  exact ⟨vh, vb, h.later hb⟩
theorem RX.lw (h : RX w A r Q) : Lw w A := by
  obtain ⟨vh, vb, h⟩ := h
  exact h.lw
end
theorem At.five {W : World} {b : Nat} {v0 v1 v2 v3 v4 : Value} (h : At W b #[v0, v1, v2, v3, v4]) :
    (W.cell? ⟨b, 0, none⟩ = some v0 ∧ W.cell? ⟨b, 1, none⟩ = some v1 ∧ W.cell? ⟨b, 2, none⟩ = some v2 ∧ W.cell? ⟨b, 3, none⟩ = some v3 ∧ W.cell? ⟨b, 4, none⟩ = some v4) ∧
    (W.frozen? ⟨b, 0, none⟩ = false ∧ W.frozen? ⟨b, 1, none⟩ = false ∧ W.frozen? ⟨b, 2, none⟩ = false ∧ W.frozen? ⟨b, 3, none⟩ = false ∧ W.frozen? ⟨b, 4, none⟩ = false) :=
  ⟨⟨(h.2 0 _ rfl).1, (h.2 1 _ rfl).1, (h.2 2 _ rfl).1, (h.2 3 _ rfl).1, (h.2 4 _ rfl).1⟩, (h.2 0 _ rfl).2, (h.2 1 _ rfl).2, (h.2 2 _ rfl).2, (h.2 3 _ rfl).2, (h.2 4 _ rfl).2⟩
theorem rnew_f (first room : Int) (w : World) (h : newB first room = false) :
    Calls Try.prog 9 #[.int .i64 first, .int .i64 room] w fun e w' => e = .returned (.tuple #[.pointer none, .int .i64 1]) ∧ w' = w := by
  have hc := rcheck_any first w
  unfold newB at h
  cases hn : numB first
  · rw [hn, codeOf_false] at hc
    clear h
    go_enter Try.func9, Try.ntmps9
    go_wp2_with fail
    refine hc.mono ?_
    rintro e w' ⟨rfl, rfl⟩
    go_wp2
    go_ret2
    exact ⟨rfl, rfl⟩
  · rw [hn, codeOf_true] at hc
    rw [hn, Bool.true_and, decide_eq_false_iff_not] at h
    by_cases hr : room < 1
    · clear h
      go_enter Try.func9, Try.ntmps9
      go_wp2_with fail
      refine hc.mono ?_
      rintro e w' ⟨rfl, rfl⟩
      go_wp2
      go_ret2
      exact ⟨rfl, rfl⟩
    · have hr2 : 65536 < room := by omega
      clear h
      go_enter Try.func9, Try.ntmps9
      go_wp2_with fail
      refine hc.mono ?_
      rintro e w' ⟨rfl, rfl⟩
      go_wp2
      go_ret2
      exact ⟨rfl, rfl⟩
theorem here_empty (room : Nat) (first : Int) : hereL (emptyQ room first) = List.replicate room false ∧ byL (emptyQ room first) = List.replicate room 0 := by
  constructor
  · refine List.ext_getElem? fun i => ?_
    rw [List.getElem?_replicate]
    by_cases h : i < room
    · rw [if_pos h]; exact hereL_at (Q := emptyQ room first) h
    · rw [if_neg h, List.getElem?_eq_none (by rw [hereL_len]; exact Nat.not_lt.1 h)]
  · refine List.ext_getElem? fun i => ?_
    rw [List.getElem?_replicate]
    by_cases h : i < room
    · rw [if_pos h]; exact byL_at (Q := emptyQ room first) h
    · rw [if_neg h, List.getElem?_eq_none (by rw [byL_len]; exact Nat.not_lt.1 h)]
theorem rnew_t (first : Int) (room : Nat) (w : World) (h0 : 0 ≤ first) (h1 : first ≤ 4294967295) (r0 : 1 ≤ room) (r1 : room ≤ 65536) :
    Calls Try.prog 9 #[.int .i64 first, .int .i64 (room : Int)] w fun e w' => ∃ r, e = .returned (.tuple #[PQ r, .int .i64 0]) ∧ RX w' (fun k => w.heap.size ≤ k ∧ k < w'.heap.size) r (emptyQ room first) ∧ Below w.heap.size w w' := by
  have hc := rcheck_any first w
  rw [show numB first = true from decide_eq_true ⟨h0, h1⟩, codeOf_true] at hc
  go_enter Try.func9, Try.ntmps9
  go_wp2_with fail
  refine hc.mono ?_
  rintro e w' ⟨rfl, rfl⟩
  go_upto_region 3 with fail
  refine wp_region_held_drew (S := (fun W => Below w'.heap.size w' W)) (by kernel_rfl) ?_ (fun hHeld => ?_)
  · first | exact (Below.refl _ _).drew | assumption
  refine wpAnyH_take (i := 0) (oi := ({ dst := some 17, op := Go.Op.move (Go.Operand.tmp 0), type := 3, pos := "ref.go:24", after := #[], guard := none } : Go.Oper)) (v := .int .i64 first) rfl (by kernel_rfl) (by kernel_rfl) (by kernel_rfl) (fun _ _ _ h => h) (Or.inl ⟨by rfl, ?_⟩) (by assumption) ?_
  · intro wx hSw
    try dsimp only at hSw
    go_simp
    try with_reducible rfl
  try simp only [Act.put, List.setIfInBounds_toArray, List.set_cons_zero, List.set_cons_succ]
  refine wpAnyH_take (i := 1) (oi := ({ dst := some 18, op := Go.Op.move (Go.Operand.tmp 1), type := 3, pos := "ref.go:24", after := #[], guard := none } : Go.Oper)) (v := .int .i64 (room : Int)) rfl (by kernel_rfl) (by kernel_rfl) (by kernel_rfl) (fun _ _ _ h => h) (Or.inl ⟨by rfl, ?_⟩) (by assumption) ?_
  · intro wx hSw
    try dsimp only at hSw
    go_simp
    try with_reducible rfl
  try simp only [Act.put, List.setIfInBounds_toArray, List.set_cons_zero, List.set_cons_succ]
  refine wpAnyH_take (i := 2) (oi := ({ dst := some 19, op := Go.Op.move (Go.Operand.tmp 1), type := 3, pos := "ref.go:24", after := #[], guard := none } : Go.Oper)) (v := .int .i64 (room : Int)) rfl (by kernel_rfl) (by kernel_rfl) (by kernel_rfl) (fun _ _ _ h => h) (Or.inl ⟨by rfl, ?_⟩) (by assumption) ?_
  · intro wx hSw
    try dsimp only at hSw
    go_simp
    try with_reducible rfl
  try simp only [Act.put, List.setIfInBounds_toArray, List.set_cons_zero, List.set_cons_succ]
  refine wpAnyH_take (i := 4) (oi := ({ dst := some 21, op := Go.Op.move (Go.Operand.tmp 1), type := 3, pos := "ref.go:24", after := #[], guard := none } : Go.Oper)) (v := .int .i64 (room : Int)) rfl (by kernel_rfl) (by kernel_rfl) (by kernel_rfl) (fun _ _ _ h => h) (Or.inl ⟨by rfl, ?_⟩) (by assumption) ?_
  · intro wx hSw
    try dsimp only at hSw
    go_simp
    try with_reducible rfl
  try simp only [Act.put, List.setIfInBounds_toArray, List.set_cons_zero, List.set_cons_succ]
  refine wpAnyH_ready (rs := [3, 5]) (by kernel_rfl) (by simp) ?_
  refine AllReadyH.cons (o := ({ dst := some 20, op := Go.Op.makeSlice 38 (Go.Operand.tmp 19) (Go.Operand.tmp 19), type := 38, pos := "ref.go:24", after := #[{ on := 2, ground := Go.Ground.data }, { on := 2, ground := Go.Ground.data }], guard := none } : Go.Oper)) rfl (fun K hK => ?_) (AllReadyH.cons (o := ({ dst := some 22, op := Go.Op.makeSlice 39 (Go.Operand.tmp 21) (Go.Operand.tmp 21), type := 39, pos := "ref.go:24", after := #[{ on := 4, ground := Go.Ground.data }, { on := 4, ground := Go.Ground.data }], guard := none } : Go.Oper)) rfl (fun K hK => ?_) AllReadyH.nil)
  · refine step_mkBo (by rfl) _ _ (by rfl) room (by omega) (by omega) (by rfl) (by rfl) ?_
    intro gh wl hVh hBh hgh
    have hgh3 := Nat.le_trans hHeld.size hgh
    refine hK.out _ _ (bt hHeld hBh) (fun hHeld => ?_)
    try have hVb := hVb.later hBh
    clear hK K
    try simp only [Act.put, List.setIfInBounds_toArray, List.set_cons_zero, List.set_cons_succ]
    refine wpAnyH_ready (rs := [5]) (by kernel_rfl) (by simp) ?_
    refine AllReadyH.cons (o := ({ dst := some 22, op := Go.Op.makeSlice 39 (Go.Operand.tmp 21) (Go.Operand.tmp 21), type := 39, pos := "ref.go:24", after := #[{ on := 4, ground := Go.Ground.data }, { on := 4, ground := Go.Ground.data }], guard := none } : Go.Oper)) rfl (fun K hK => ?_) AllReadyH.nil
    · refine step_mkBy (by rfl) _ _ (by rfl) room (by omega) (by omega) (by rfl) (by rfl) ?_
      intro gb wl hVb hBy hgb
      have hgb3 := Nat.le_trans hHeld.size hgb
      refine hK.out _ _ (bt hHeld hBy) (fun hHeld => ?_)
      try have hVh := hVh.later hBy
      clear hK K
      try simp only [Act.put, List.setIfInBounds_toArray, List.set_cons_zero, List.set_cons_succ]
      refine wpAnyH_take (i := 6) (oi := ({ dst := some 23, op := Go.Op.build 41 #[(0, Go.Operand.tmp 17), (1, Go.Operand.tmp 18), (3, Go.Operand.tmp 20), (4, Go.Operand.tmp 22)], type := 41, pos := "ref.go:24", after := #[{ on := 0, ground := Go.Ground.data }, { on := 1, ground := Go.Ground.data }, { on := 3, ground := Go.Ground.data }, { on := 5, ground := Go.Ground.data }], guard := none } : Go.Oper)) (v := .agg #[.int .i64 first, .int .i64 (room : Int), .string ⟨#[]⟩, .slice (some ⟨gh, 0, none⟩) room room, .slice (some ⟨gb, 0, none⟩) room room]) rfl (by kernel_rfl) (by kernel_rfl) (by kernel_rfl) (fun _ _ _ h => h) (Or.inl ⟨by rfl, ?_⟩) (by assumption) ?_
      · intro wx hSw
        try dsimp only at hSw
        go_simp
        try with_reducible rfl
      try simp only [Act.put, List.setIfInBounds_toArray, List.set_cons_zero, List.set_cons_succ]
      refine wpAnyH_ready (rs := [7]) (by kernel_rfl) (by simp) ?_
      refine AllReadyH.cons (o := ({ dst := some 24, op := Go.Op.box 41 (Go.Operand.tmp 23), type := 28, pos := "ref.go:24", after := #[{ on := 6, ground := Go.Ground.data }], guard := none } : Go.Oper)) rfl (fun K hK => ?_) AllReadyH.nil
      · have HB7 := hHeld
        go_simp
        refine hK.out _ _ (bt hHeld (bel1 _ _)) (fun hHeld => ?_)
        clear hK K
        try simp only [Act.put, List.setIfInBounds_toArray, List.set_cons_zero, List.set_cons_succ]
        refine wpAnyH_take (i := 8) (oi := ({ dst := some 4, op := Go.Op.assign (Go.Operand.tmp 24), type := 28, pos := "ref.go:24", after := #[{ on := 7, ground := Go.Ground.data }, { on := 0, ground := Go.Ground.phase }, { on := 1, ground := Go.Ground.phase }, { on := 2, ground := Go.Ground.phase }, { on := 3, ground := Go.Ground.phase }, { on := 4, ground := Go.Ground.phase }, { on := 5, ground := Go.Ground.phase }, { on := 6, ground := Go.Ground.phase }, { on := 7, ground := Go.Ground.phase }], guard := none } : Go.Oper)) (v := .pointer (some ⟨wl.heap.size, 0, none⟩)) rfl (by kernel_rfl) (by kernel_rfl) (by kernel_rfl) (fun _ _ _ h => h) (Or.inl ⟨by rfl, ?_⟩) (by assumption) ?_
        · intro wx hSw
          try dsimp only at hSw
          go_simp
          try with_reducible rfl
        try simp only [Act.put, List.setIfInBounds_toArray, List.set_cons_zero, List.set_cons_succ]
        refine wpAnyH_take (i := 9) (oi := ({ dst := some 5, op := Go.Op.assign (Go.Operand.const (Go.Value.int Go.IntKind.i64 0)), type := 25, pos := "ref.go:24", after := #[{ on := 8, ground := Go.Ground.chain }, { on := 0, ground := Go.Ground.phase }, { on := 1, ground := Go.Ground.phase }, { on := 2, ground := Go.Ground.phase }, { on := 3, ground := Go.Ground.phase }, { on := 4, ground := Go.Ground.phase }, { on := 5, ground := Go.Ground.phase }, { on := 6, ground := Go.Ground.phase }, { on := 7, ground := Go.Ground.phase }, { on := 8, ground := Go.Ground.phase }], guard := none } : Go.Oper)) (v := .int .i64 0) rfl (by kernel_rfl) (by kernel_rfl) (by kernel_rfl) (fun _ _ _ h => h) (Or.inl ⟨by rfl, ?_⟩) (by assumption) ?_
        · intro wx hSw
          try dsimp only at hSw
          go_simp
          try with_reducible rfl
        try simp only [Act.put, List.setIfInBounds_toArray, List.set_cons_zero, List.set_cons_succ]
        refine wpAnyH_done (by kernel_rfl) ?_ _
        go_wp2
        go_ret2
        obtain ⟨he1, he2⟩ := here_empty room first
        have hs7 := HB7.size
        have hgh2 : gh < wl.heap.size := hVh.lt rfl
        have hgb2 : gb < wl.heap.size := hVb.lt rfl
        refine ⟨wl.heap.size, rfl, ⟨_, _, At.box wl (ruV (emptyQ room first) (.slice (some ⟨gh, 0, none⟩) room room) (.slice (some ⟨gb, 0, none⟩) room room)) 41, by rw [he1]; exact hVh.later (bel1 wl _), by rw [he2]; exact hVb.later (bel1 wl _), ⟨hs7, by simp⟩, (fun k hk => by cases hk; exact ⟨⟨hgh3, by simp; omega⟩, by show gh ≠ _; omega⟩), (fun k hk => by cases hk; exact ⟨⟨hgb3, by simp; omega⟩, by show gb ≠ _; omega⟩), fun k hk => hk.2⟩, hHeld⟩
  · refine step_mkBy (by rfl) _ _ (by rfl) room (by omega) (by omega) (by rfl) (by rfl) ?_
    intro gb wl hVb hBy hgb
    have hgb3 := Nat.le_trans hHeld.size hgb
    refine hK.out _ _ (bt hHeld hBy) (fun hHeld => ?_)
    try have hVh := hVh.later hBy
    clear hK K
    try simp only [Act.put, List.setIfInBounds_toArray, List.set_cons_zero, List.set_cons_succ]
    refine wpAnyH_ready (rs := [3]) (by kernel_rfl) (by simp) ?_
    refine AllReadyH.cons (o := ({ dst := some 20, op := Go.Op.makeSlice 38 (Go.Operand.tmp 19) (Go.Operand.tmp 19), type := 38, pos := "ref.go:24", after := #[{ on := 2, ground := Go.Ground.data }, { on := 2, ground := Go.Ground.data }], guard := none } : Go.Oper)) rfl (fun K hK => ?_) AllReadyH.nil
    · refine step_mkBo (by rfl) _ _ (by rfl) room (by omega) (by omega) (by rfl) (by rfl) ?_
      intro gh wl hVh hBh hgh
      have hgh3 := Nat.le_trans hHeld.size hgh
      refine hK.out _ _ (bt hHeld hBh) (fun hHeld => ?_)
      try have hVb := hVb.later hBh
      clear hK K
      try simp only [Act.put, List.setIfInBounds_toArray, List.set_cons_zero, List.set_cons_succ]
      refine wpAnyH_take (i := 6) (oi := ({ dst := some 23, op := Go.Op.build 41 #[(0, Go.Operand.tmp 17), (1, Go.Operand.tmp 18), (3, Go.Operand.tmp 20), (4, Go.Operand.tmp 22)], type := 41, pos := "ref.go:24", after := #[{ on := 0, ground := Go.Ground.data }, { on := 1, ground := Go.Ground.data }, { on := 3, ground := Go.Ground.data }, { on := 5, ground := Go.Ground.data }], guard := none } : Go.Oper)) (v := .agg #[.int .i64 first, .int .i64 (room : Int), .string ⟨#[]⟩, .slice (some ⟨gh, 0, none⟩) room room, .slice (some ⟨gb, 0, none⟩) room room]) rfl (by kernel_rfl) (by kernel_rfl) (by kernel_rfl) (fun _ _ _ h => h) (Or.inl ⟨by rfl, ?_⟩) (by assumption) ?_
      · intro wx hSw
        try dsimp only at hSw
        go_simp
        try with_reducible rfl
      try simp only [Act.put, List.setIfInBounds_toArray, List.set_cons_zero, List.set_cons_succ]
      refine wpAnyH_ready (rs := [7]) (by kernel_rfl) (by simp) ?_
      refine AllReadyH.cons (o := ({ dst := some 24, op := Go.Op.box 41 (Go.Operand.tmp 23), type := 28, pos := "ref.go:24", after := #[{ on := 6, ground := Go.Ground.data }], guard := none } : Go.Oper)) rfl (fun K hK => ?_) AllReadyH.nil
      · have HB7 := hHeld
        go_simp
        refine hK.out _ _ (bt hHeld (bel1 _ _)) (fun hHeld => ?_)
        clear hK K
        try simp only [Act.put, List.setIfInBounds_toArray, List.set_cons_zero, List.set_cons_succ]
        refine wpAnyH_take (i := 8) (oi := ({ dst := some 4, op := Go.Op.assign (Go.Operand.tmp 24), type := 28, pos := "ref.go:24", after := #[{ on := 7, ground := Go.Ground.data }, { on := 0, ground := Go.Ground.phase }, { on := 1, ground := Go.Ground.phase }, { on := 2, ground := Go.Ground.phase }, { on := 3, ground := Go.Ground.phase }, { on := 4, ground := Go.Ground.phase }, { on := 5, ground := Go.Ground.phase }, { on := 6, ground := Go.Ground.phase }, { on := 7, ground := Go.Ground.phase }], guard := none } : Go.Oper)) (v := .pointer (some ⟨wl.heap.size, 0, none⟩)) rfl (by kernel_rfl) (by kernel_rfl) (by kernel_rfl) (fun _ _ _ h => h) (Or.inl ⟨by rfl, ?_⟩) (by assumption) ?_
        · intro wx hSw
          try dsimp only at hSw
          go_simp
          try with_reducible rfl
        try simp only [Act.put, List.setIfInBounds_toArray, List.set_cons_zero, List.set_cons_succ]
        refine wpAnyH_take (i := 9) (oi := ({ dst := some 5, op := Go.Op.assign (Go.Operand.const (Go.Value.int Go.IntKind.i64 0)), type := 25, pos := "ref.go:24", after := #[{ on := 8, ground := Go.Ground.chain }, { on := 0, ground := Go.Ground.phase }, { on := 1, ground := Go.Ground.phase }, { on := 2, ground := Go.Ground.phase }, { on := 3, ground := Go.Ground.phase }, { on := 4, ground := Go.Ground.phase }, { on := 5, ground := Go.Ground.phase }, { on := 6, ground := Go.Ground.phase }, { on := 7, ground := Go.Ground.phase }, { on := 8, ground := Go.Ground.phase }], guard := none } : Go.Oper)) (v := .int .i64 0) rfl (by kernel_rfl) (by kernel_rfl) (by kernel_rfl) (fun _ _ _ h => h) (Or.inl ⟨by rfl, ?_⟩) (by assumption) ?_
        · intro wx hSw
          try dsimp only at hSw
          go_simp
          try with_reducible rfl
        try simp only [Act.put, List.setIfInBounds_toArray, List.set_cons_zero, List.set_cons_succ]
        refine wpAnyH_done (by kernel_rfl) ?_ _
        go_wp2
        go_ret2
        obtain ⟨he1, he2⟩ := here_empty room first
        have hs7 := HB7.size
        have hgh2 : gh < wl.heap.size := hVh.lt rfl
        have hgb2 : gb < wl.heap.size := hVb.lt rfl
        refine ⟨wl.heap.size, rfl, ⟨_, _, At.box wl (ruV (emptyQ room first) (.slice (some ⟨gh, 0, none⟩) room room) (.slice (some ⟨gb, 0, none⟩) room room)) 41, by rw [he1]; exact hVh.later (bel1 wl _), by rw [he2]; exact hVb.later (bel1 wl _), ⟨hs7, by simp⟩, (fun k hk => by cases hk; exact ⟨⟨hgh3, by simp; omega⟩, by show gh ≠ _; omega⟩), (fun k hk => by cases hk; exact ⟨⟨hgb3, by simp; omega⟩, by show gb ≠ _; omega⟩), fun k hk => hk.2⟩, hHeld⟩
theorem rwindow_any {w : World} {A : Bk} {r : Nat} {Q : Rq} (h : RX w A r Q) (hf : Q.Fine) : Calls Try.prog 17 #[PQ r] w fun e w' => e = .returned (.int .i64 ((Q.room - Q.bs.length : Nat) : Int)) ∧ Below w.heap.size w w' := by
  obtain ⟨vh, vb, h⟩ := h
  obtain ⟨⟨c0, c1, c2, c3, c4⟩, -⟩ := h.at5.five
  have r1 := hf.r1
  have hln := hf.ln
  have hsz : (strB Q.bs).size = Q.bs.length := strB_size _
  obtain ⟨ss, hss⟩ : ∃ x, x = strB Q.bs := ⟨_, rfl⟩
  rw [← hss] at c2 hsz
  have hs : (Q.room : Int) - (ss.size : Int) = ((Q.room - Q.bs.length : Nat) : Int) := by omega
  have hw1 : IntKind.i64.wrap ((Q.room : Int) - (ss.size : Int)) = (Q.room : Int) - (ss.size : Int) := by rw [IntKind.wrap_i64] <;> omega
  have HS : Hid ((Q.room : Int) - (ss.size : Int) = ((Q.room - Q.bs.length : Nat) : Int)) := hs
  clear h hs hsz hss
  have hc1 : ∀ W, Below w.heap.size w W → W.cell? ⟨r, 1, none⟩ = some (.int .i64 (Q.room : Int)) := fun W hW => later hW c1
  have hc2 : ∀ W, Below w.heap.size w W → W.cell? ⟨r, 2, none⟩ = some (.string ss) := fun W hW => later hW c2
  clear c0 c1 c2 c3 c4
  go_enter Try.func17, Try.ntmps17
  go_upto_region 1 with fail
  refine wp_region_held_drew (S := (fun W => Below w.heap.size w W)) (by kernel_rfl) ?_ (fun hHeld => ?_)
  · first | exact (Below.refl _ _).drew | assumption
  refine wpAnyH_take (i := 0) (oi := ({ dst := some 3, op := Go.Op.move (Go.Operand.tmp 0), type := 28, pos := "ref.go:33", after := #[], guard := none } : Go.Oper)) (v := .pointer (some ⟨r, 0, none⟩)) rfl (by kernel_rfl) (by kernel_rfl) (by kernel_rfl) (fun _ _ _ h => h) (Or.inl ⟨by rfl, ?_⟩) (by assumption) ?_
  · intro wx hSw
    try dsimp only at hSw
    have u1 := hc1 wx hSw
    have u2 := hc2 wx hSw
    go_simp
    try with_reducible rfl
  try simp only [Act.put, List.setIfInBounds_toArray, List.set_cons_zero, List.set_cons_succ]
  refine wpAnyH_take (i := 1) (oi := ({ dst := some 4, op := Go.Op.nilCheck (Go.Operand.tmp 3), type := 0, pos := "ref.go:33", after := #[{ on := 0, ground := Go.Ground.data }], guard := none } : Go.Oper)) (v := .pointer (some ⟨r, 0, none⟩)) rfl (by kernel_rfl) (by kernel_rfl) (by kernel_rfl) (fun _ _ _ h => h) (Or.inl ⟨by rfl, ?_⟩) (by assumption) ?_
  · intro wx hSw
    try dsimp only at hSw
    have u1 := hc1 wx hSw
    have u2 := hc2 wx hSw
    go_simp
    try with_reducible rfl
  try simp only [Act.put, List.setIfInBounds_toArray, List.set_cons_zero, List.set_cons_succ]
  refine wpAnyH_take (i := 2) (oi := ({ dst := some 5, op := Go.Op.fieldAddr 41 (Go.Operand.tmp 4) 1, type := 0, pos := "ref.go:33", after := #[{ on := 1, ground := Go.Ground.data }], guard := none } : Go.Oper)) (v := .pointer (some ⟨r, 1, none⟩)) rfl (by kernel_rfl) (by kernel_rfl) (by kernel_rfl) (fun _ _ _ h => h) (Or.inl ⟨by rfl, ?_⟩) (by assumption) ?_
  · intro wx hSw
    try dsimp only at hSw
    have u1 := hc1 wx hSw
    have u2 := hc2 wx hSw
    go_simp
    try with_reducible rfl
  try simp only [Act.put, List.setIfInBounds_toArray, List.set_cons_zero, List.set_cons_succ]
  refine wpAnyH_take (i := 3) (oi := ({ dst := some 6, op := Go.Op.load 3 (Go.Operand.tmp 5), type := 3, pos := "ref.go:33", after := #[{ on := 2, ground := Go.Ground.data }], guard := none } : Go.Oper)) (v := .int .i64 (Q.room : Int)) rfl (by kernel_rfl) (by kernel_rfl) (by kernel_rfl) (fun _ _ _ h => h) (Or.inl ⟨by rfl, ?_⟩) (by assumption) ?_
  · intro wx hSw
    try dsimp only at hSw
    have u1 := hc1 wx hSw
    have u2 := hc2 wx hSw
    go_simp
    try with_reducible rfl
  try simp only [Act.put, List.setIfInBounds_toArray, List.set_cons_zero, List.set_cons_succ]
  refine wpAnyH_take (i := 4) (oi := ({ dst := some 7, op := Go.Op.move (Go.Operand.tmp 0), type := 28, pos := "ref.go:33", after := #[], guard := none } : Go.Oper)) (v := .pointer (some ⟨r, 0, none⟩)) rfl (by kernel_rfl) (by kernel_rfl) (by kernel_rfl) (fun _ _ _ h => h) (Or.inl ⟨by rfl, ?_⟩) (by assumption) ?_
  · intro wx hSw
    try dsimp only at hSw
    have u1 := hc1 wx hSw
    have u2 := hc2 wx hSw
    go_simp
    try with_reducible rfl
  try simp only [Act.put, List.setIfInBounds_toArray, List.set_cons_zero, List.set_cons_succ]
  refine wpAnyH_take (i := 5) (oi := ({ dst := some 8, op := Go.Op.nilCheck (Go.Operand.tmp 7), type := 0, pos := "ref.go:33", after := #[{ on := 4, ground := Go.Ground.data }], guard := none } : Go.Oper)) (v := .pointer (some ⟨r, 0, none⟩)) rfl (by kernel_rfl) (by kernel_rfl) (by kernel_rfl) (fun _ _ _ h => h) (Or.inl ⟨by rfl, ?_⟩) (by assumption) ?_
  · intro wx hSw
    try dsimp only at hSw
    have u1 := hc1 wx hSw
    have u2 := hc2 wx hSw
    go_simp
    try with_reducible rfl
  try simp only [Act.put, List.setIfInBounds_toArray, List.set_cons_zero, List.set_cons_succ]
  refine wpAnyH_take (i := 6) (oi := ({ dst := some 9, op := Go.Op.fieldAddr 41 (Go.Operand.tmp 8) 2, type := 0, pos := "ref.go:33", after := #[{ on := 5, ground := Go.Ground.data }], guard := none } : Go.Oper)) (v := .pointer (some ⟨r, 2, none⟩)) rfl (by kernel_rfl) (by kernel_rfl) (by kernel_rfl) (fun _ _ _ h => h) (Or.inl ⟨by rfl, ?_⟩) (by assumption) ?_
  · intro wx hSw
    try dsimp only at hSw
    have u1 := hc1 wx hSw
    have u2 := hc2 wx hSw
    go_simp
    try with_reducible rfl
  try simp only [Act.put, List.setIfInBounds_toArray, List.set_cons_zero, List.set_cons_succ]
  refine wpAnyH_take (i := 7) (oi := ({ dst := some 10, op := Go.Op.load 9 (Go.Operand.tmp 9), type := 9, pos := "ref.go:33", after := #[{ on := 6, ground := Go.Ground.data }], guard := none } : Go.Oper)) (v := .string ss) rfl (by kernel_rfl) (by kernel_rfl) (by kernel_rfl) (fun _ _ _ h => h) (Or.inl ⟨by rfl, ?_⟩) (by assumption) ?_
  · intro wx hSw
    try dsimp only at hSw
    have u1 := hc1 wx hSw
    have u2 := hc2 wx hSw
    go_simp
    try with_reducible rfl
  try simp only [Act.put, List.setIfInBounds_toArray, List.set_cons_zero, List.set_cons_succ]
  refine wpAnyH_take (i := 8) (oi := ({ dst := some 11, op := Go.Op.call { callee := Go.Callee.builtin Go.Builtin.len, args := #[Go.Operand.tmp 10], argTypes := #[9] }, type := 3, pos := "ref.go:33", after := #[{ on := 7, ground := Go.Ground.data }], guard := none } : Go.Oper)) (v := .int .i64 (ss.size : Int)) rfl (by kernel_rfl) (by kernel_rfl) (by kernel_rfl) (fun _ _ _ h => h) (Or.inl ⟨by rfl, ?_⟩) (by assumption) ?_
  · intro wx hSw
    try dsimp only at hSw
    have u1 := hc1 wx hSw
    have u2 := hc2 wx hSw
    go_simp
    try with_reducible rfl
  try simp only [Act.put, List.setIfInBounds_toArray, List.set_cons_zero, List.set_cons_succ]
  refine wpAnyH_take (i := 9) (oi := ({ dst := some 12, op := Go.Op.binOp Go.BinOp.sub 3 (Go.Operand.tmp 6) (Go.Operand.tmp 11) 3, type := 3, pos := "ref.go:33", after := #[{ on := 3, ground := Go.Ground.data }, { on := 8, ground := Go.Ground.data }], guard := none } : Go.Oper)) (v := .int .i64 ((Q.room : Int) - (ss.size : Int))) rfl (by kernel_rfl) (by kernel_rfl) (by kernel_rfl) (fun _ _ _ h => h) (Or.inl ⟨by rfl, ?_⟩) (by assumption) ?_
  · intro wx hSw
    try dsimp only at hSw
    have u1 := hc1 wx hSw
    have u2 := hc2 wx hSw
    go_simp
    try with_reducible rfl
  try simp only [Act.put, List.setIfInBounds_toArray, List.set_cons_zero, List.set_cons_succ]
  refine wpAnyH_take (i := 10) (oi := ({ dst := some 2, op := Go.Op.assign (Go.Operand.tmp 12), type := 3, pos := "ref.go:33", after := #[{ on := 9, ground := Go.Ground.data }, { on := 0, ground := Go.Ground.phase }, { on := 1, ground := Go.Ground.phase }, { on := 2, ground := Go.Ground.phase }, { on := 3, ground := Go.Ground.phase }, { on := 4, ground := Go.Ground.phase }, { on := 5, ground := Go.Ground.phase }, { on := 6, ground := Go.Ground.phase }, { on := 7, ground := Go.Ground.phase }, { on := 8, ground := Go.Ground.phase }, { on := 9, ground := Go.Ground.phase }], guard := none } : Go.Oper)) (v := .int .i64 ((Q.room : Int) - (ss.size : Int))) rfl (by kernel_rfl) (by kernel_rfl) (by kernel_rfl) (fun _ _ _ h => h) (Or.inl ⟨by rfl, ?_⟩) (by assumption) ?_
  · intro wx hSw
    try dsimp only at hSw
    have u1 := hc1 wx hSw
    have u2 := hc2 wx hSw
    go_simp
    try with_reducible rfl
  try simp only [Act.put, List.setIfInBounds_toArray, List.set_cons_zero, List.set_cons_succ]
  refine wpAnyH_done (by kernel_rfl) ?_ _
  go_wp2
  go_ret
  exact ⟨by rw [HS.out]; rfl, hHeld⟩
theorem rread_any {w : World} {A : Bk} {r : Nat} {Q : Rq} (h : RX w A r Q) (hf : Q.Fine) (most : Int) :
    Calls Try.prog 29 #[PQ r, .int .i64 most] w fun e w' => e = .returned (.string (strB (Q.bs.take (readN Q most)))) ∧ RX w' A r (readQ Q (readN Q most)) ∧ Turn A w w' := by
  obtain ⟨vh, vb, h⟩ := h
  have hnl := readN_le Q most
  have hsz : (strB Q.bs).size = Q.bs.length := strB_size _
  obtain ⟨ss, hss⟩ : ∃ x, x = strB Q.bs := ⟨_, rfl⟩
  obtain ⟨⟨c0, c1, c2, c3, c4⟩, f0, f1, f2, f3, f4⟩ := h.at5.five
  rw [← hss] at c2 hsz
  have hmm : max 0 (min most (ss.size : Int)) = (readN Q most : Int) := by rw [hsz]; unfold readN; omega
  generalize readN Q most = n at *
  have hl : Q.bs.length ≤ 65536 := Nat.le_trans hf.ln hf.r1
  have hsl1 : ∀ W, (Instr.slice 9 (.string ss) none (some (.int .i64 (n : Int))) none).run Try.prog W = .ok (.string (strB (Q.bs.take n))) W := fun W => by
    have e9 : ss.extract 0 n = strB (Q.bs.take n) := by rw [strB_extract, hss]; rfl
    simp [Instr.slice, Instr.sliceBounds, Instr.sliceBound, asIntOf, run_underlying Try.underlying9, Result.andThen]
    simp [show n ≤ ss.size by omega, e9]
  have hsl2 : ∀ W, (Instr.slice 9 (.string ss) (some (.int .i64 (n : Int))) none none).run Try.prog W = .ok (.string (strB (Q.bs.drop n))) W := fun W => by
    have e9 : ss.extract n ss.size = strB (Q.bs.drop n) := by
      rw [strB_extract, hss, strB_size]
      show strB ((Q.bs.drop n).take (Q.bs.length - n)) = _
      rw [List.take_of_length_le (by rw [List.length_drop]; omega)]
    simp [Instr.slice, Instr.sliceBounds, Instr.sliceBound, asIntOf, run_underlying Try.underlying9, Result.andThen]
    simp [show n ≤ ss.size by omega, e9]
  have HQ : Hid (RX (w.setCell ⟨r, 2, none⟩ (.string (strB (Q.bs.drop n)))) A r (readQ Q n) ∧ Turn A w (w.setCell ⟨r, 2, none⟩ (.string (strB (Q.bs.drop n))))) :=
    ⟨⟨vh, vb, h.at5.set 2 _, h.hh.turn (turn_set w r 2 _) (fun k hk e => (h.ah k hk).2 e), h.hb.turn (turn_set w r 2 _) (fun k hk e => (h.ab k hk).2 e), h.ar, h.ah, h.ab, h.lw.size (by simp)⟩, turnA h.ar _ _ _⟩
  generalize strB (Q.bs.drop n) = sd at *
  generalize strB (Q.bs.take n) = st at *
  clear h hss hsz hf hnl
  go_enter Try.func29, Try.ntmps29
  go_wp2
  go_ret
  exact ⟨rfl, HQ.out.1, HQ.out.2⟩
end Go.Proofs.Ytiglaalppaljbaa
