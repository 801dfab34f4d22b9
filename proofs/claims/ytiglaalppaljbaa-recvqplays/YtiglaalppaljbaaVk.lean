/- sameRanges, works. -/
import Derived.Test.YtiglaalppaljbaaVi
namespace Go.Proofs.Ytiglaalppaljbaa
open Go.RowKit Go.Maps Go.Lib
set_option maxRecDepth 100000
set_option linter.unusedVariables false
set_option linter.unusedSimpArgs false


/-- A list of ranges that is read. -/
def RV (w : World) (v : Value) (rs : List Rg) : Prop := ∃ a c, v = .slice a rs.length c ∧ ∀ i e, rs[i]? = some e → ∃ g, a = some ⟨g, 0, none⟩ ∧ w.cell? ⟨g, i * 2, none⟩ = some (.int .i64 e.1) ∧ w.cell? ⟨g, i * 2 + 1, none⟩ = some (.int .i64 e.2)
theorem RO.rv {w : World} {base : Nat} {v : Value} {rs : List Rg} (h : RO w base v rs) : RV w v rs := by
  rcases h.2 with ⟨rfl, h0⟩ | ⟨g, cap, cur, rfl, hg, hb, h1, h2⟩
  · obtain rfl := List.length_eq_zero_iff.1 h0
    exact ⟨none, 0, rfl, fun i e he => by simp at he⟩
  · exact ⟨_, _, rfl, fun i e he => ⟨g, rfl, RO.cell h he⟩⟩
theorem RV.later {w w' : World} {v : Value} {rs : List Rg} (h : RV w v rs) (hb : Below w.heap.size w w') : RV w' v rs := by
  obtain ⟨a, c, rfl, h⟩ := h
  exact ⟨a, c, rfl, fun i e he => by obtain ⟨g, h1, h2, h3⟩ := h i e he; exact ⟨g, h1, Go.Proofs.Ytiglaalppaljbaa.later hb h2, Go.Proofs.Ytiglaalppaljbaa.later hb h3⟩⟩
set_option maxHeartbeats 1000000 in
theorem same_any {w : World} {va vb : Value} {rs : List Rg} (ha : RV w va rs) (hb : RV w vb rs) (hl : rs.length ≤ 100000) :
    Calls Try.prog 19 #[va, vb] w fun e w' => e = .returned (.bool true) ∧ Below w.heap.size w w' := by
  obtain ⟨a1, c1, rfl, h1⟩ := ha
  obtain ⟨a2, c2, rfl, h2⟩ := hb
  obtain ⟨n, hn⟩ : ∃ n, n = rs.length := ⟨_, rfl⟩
  rw [← hn] at hl ⊢
  have HN : Hid (n = rs.length) := hn
  clear hn
  go_enter Try.func19, Try.ntmps19
  go_wp2
  try go_frame
  go_loopw [5] (fun s5 wr => ∃ (i : Nat), i ≤ n ∧ s5 = .int .i64 (i : Int) ∧ Below w.heap.size w wr) (fun s5 _ => n - (RowKit.intOf s5).toNat)
  case atStart => exact ⟨0, Nat.zero_le _, rfl, Below.refl _ _⟩
  case round =>
    obtain ⟨i, hi, rfl, hb⟩ := hrel
    by_cases hlt : i < n
    · obtain ⟨e, he⟩ : ∃ e, rs[i]? = some e := ⟨_, List.getElem?_eq_getElem (by have := HN.out; omega)⟩
      obtain ⟨g1, rfl, x1, y1⟩ := h1 i e he
      obtain ⟨g2, rfl, x2, y2⟩ := h2 i e he
      have hx1 : ∀ W, Below wr.heap.size wr W → W.cell? ⟨g1, i * 2, none⟩ = some (.int .i64 e.1) := fun W hW => later (bt hb hW) x1
      have hy1 : ∀ W, Below wr.heap.size wr W → W.cell? ⟨g1, i * 2 + 1, none⟩ = some (.int .i64 e.2) := fun W hW => later (bt hb hW) y1
      have hx2 : ∀ W, Below wr.heap.size wr W → W.cell? ⟨g2, i * 2, none⟩ = some (.int .i64 e.1) := fun W hW => later (bt hb hW) x2
      have hy2 : ∀ W, Below wr.heap.size wr W → W.cell? ⟨g2, i * 2 + 1, none⟩ = some (.int .i64 e.2) := fun W hW => later (bt hb hW) y2
      clear x1 y1 x2 y2
      go_upto_region 6 with fail
      refine wp_region_held_drew (S := (fun W => Below wr.heap.size wr W)) (by kernel_rfl) ?_ (fun hHeld => ?_)
      · first | exact (Below.refl _ _).drew | assumption
      refine wpAnyH_take (i := 0) (oi := ({ dst := some 17, op := Go.Op.move (Go.Operand.tmp 0), type := 42, pos := "law.go:24", after := #[], guard := none } : Go.Oper)) (v := .slice (some ⟨g1, 0, none⟩) n c1) rfl (by kernel_rfl) (by kernel_rfl) (by kernel_rfl) (fun _ _ _ h => h) (Or.inl ⟨by rfl, ?_⟩) (by assumption) ?_
      · intro wx hSw
        try dsimp only at hSw
        have u1 := hx1 wx hSw
        have u2 := hy1 wx hSw
        have u3 := hx2 wx hSw
        have u4 := hy2 wx hSw
        go_simp
        try with_reducible rfl
      try simp only [Act.put, List.setIfInBounds_toArray, List.set_cons_zero, List.set_cons_succ]
      refine wpAnyH_take (i := 1) (oi := ({ dst := some 18, op := Go.Op.move (Go.Operand.tmp 5), type := 3, pos := "law.go:24", after := #[], guard := none } : Go.Oper)) (v := .int .i64 (i : Int)) rfl (by kernel_rfl) (by kernel_rfl) (by kernel_rfl) (fun _ _ _ h => h) (Or.inl ⟨by rfl, ?_⟩) (by assumption) ?_
      · intro wx hSw
        try dsimp only at hSw
        have u1 := hx1 wx hSw
        have u2 := hy1 wx hSw
        have u3 := hx2 wx hSw
        have u4 := hy2 wx hSw
        go_simp
        try with_reducible rfl
      try simp only [Act.put, List.setIfInBounds_toArray, List.set_cons_zero, List.set_cons_succ]
      refine wpAnyH_take (i := 2) (oi := ({ dst := some 19, op := Go.Op.indexAddr 42 (Go.Operand.tmp 17) (Go.Operand.tmp 18), type := 0, pos := "law.go:24", after := #[{ on := 0, ground := Go.Ground.data }, { on := 1, ground := Go.Ground.data }], guard := none } : Go.Oper)) (v := .pointer (some ⟨g1, i * 2, none⟩)) rfl (by kernel_rfl) (by kernel_rfl) (by kernel_rfl) (fun _ _ _ h => h) (Or.inl ⟨by rfl, ?_⟩) (by assumption) ?_
      · intro wx hSw
        try dsimp only at hSw
        have u1 := hx1 wx hSw
        have u2 := hy1 wx hSw
        have u3 := hx2 wx hSw
        have u4 := hy2 wx hSw
        go_simp
        try with_reducible rfl
      try simp only [Act.put, List.setIfInBounds_toArray, List.set_cons_zero, List.set_cons_succ]
      refine wpAnyH_take (i := 3) (oi := ({ dst := some 20, op := Go.Op.load 56 (Go.Operand.tmp 19), type := 56, pos := "law.go:24", after := #[{ on := 2, ground := Go.Ground.data }], guard := none } : Go.Oper)) (v := .agg #[.int .i64 e.1, .int .i64 e.2]) rfl (by kernel_rfl) (by kernel_rfl) (by kernel_rfl) (fun _ _ _ h => h) (Or.inl ⟨by rfl, ?_⟩) (by assumption) ?_
      · intro wx hSw
        try dsimp only at hSw
        have u1 := hx1 wx hSw
        have u2 := hy1 wx hSw
        have u3 := hx2 wx hSw
        have u4 := hy2 wx hSw
        go_simp
        try with_reducible rfl
      try simp only [Act.put, List.setIfInBounds_toArray, List.set_cons_zero, List.set_cons_succ]
      refine wpAnyH_take (i := 4) (oi := ({ dst := some 21, op := Go.Op.move (Go.Operand.tmp 1), type := 42, pos := "law.go:24", after := #[], guard := none } : Go.Oper)) (v := .slice (some ⟨g2, 0, none⟩) n c2) rfl (by kernel_rfl) (by kernel_rfl) (by kernel_rfl) (fun _ _ _ h => h) (Or.inl ⟨by rfl, ?_⟩) (by assumption) ?_
      · intro wx hSw
        try dsimp only at hSw
        have u1 := hx1 wx hSw
        have u2 := hy1 wx hSw
        have u3 := hx2 wx hSw
        have u4 := hy2 wx hSw
        go_simp
        try with_reducible rfl
      try simp only [Act.put, List.setIfInBounds_toArray, List.set_cons_zero, List.set_cons_succ]
      refine wpAnyH_take (i := 5) (oi := ({ dst := some 22, op := Go.Op.move (Go.Operand.tmp 5), type := 3, pos := "law.go:24", after := #[], guard := none } : Go.Oper)) (v := .int .i64 (i : Int)) rfl (by kernel_rfl) (by kernel_rfl) (by kernel_rfl) (fun _ _ _ h => h) (Or.inl ⟨by rfl, ?_⟩) (by assumption) ?_
      · intro wx hSw
        try dsimp only at hSw
        have u1 := hx1 wx hSw
        have u2 := hy1 wx hSw
        have u3 := hx2 wx hSw
        have u4 := hy2 wx hSw
        go_simp
        try with_reducible rfl
      try simp only [Act.put, List.setIfInBounds_toArray, List.set_cons_zero, List.set_cons_succ]
      refine wpAnyH_take (i := 6) (oi := ({ dst := some 23, op := Go.Op.indexAddr 42 (Go.Operand.tmp 21) (Go.Operand.tmp 22), type := 0, pos := "law.go:24", after := #[{ on := 4, ground := Go.Ground.data }, { on := 5, ground := Go.Ground.data }], guard := none } : Go.Oper)) (v := .pointer (some ⟨g2, i * 2, none⟩)) rfl (by kernel_rfl) (by kernel_rfl) (by kernel_rfl) (fun _ _ _ h => h) (Or.inl ⟨by rfl, ?_⟩) (by assumption) ?_
      · intro wx hSw
        try dsimp only at hSw
        have u1 := hx1 wx hSw
        have u2 := hy1 wx hSw
        have u3 := hx2 wx hSw
        have u4 := hy2 wx hSw
        go_simp
        try with_reducible rfl
      try simp only [Act.put, List.setIfInBounds_toArray, List.set_cons_zero, List.set_cons_succ]
      refine wpAnyH_take (i := 7) (oi := ({ dst := some 24, op := Go.Op.load 56 (Go.Operand.tmp 23), type := 56, pos := "law.go:24", after := #[{ on := 6, ground := Go.Ground.data }], guard := none } : Go.Oper)) (v := .agg #[.int .i64 e.1, .int .i64 e.2]) rfl (by kernel_rfl) (by kernel_rfl) (by kernel_rfl) (fun _ _ _ h => h) (Or.inl ⟨by rfl, ?_⟩) (by assumption) ?_
      · intro wx hSw
        try dsimp only at hSw
        have u1 := hx1 wx hSw
        have u2 := hy1 wx hSw
        have u3 := hx2 wx hSw
        have u4 := hy2 wx hSw
        go_simp
        try with_reducible rfl
      try simp only [Act.put, List.setIfInBounds_toArray, List.set_cons_zero, List.set_cons_succ]
      refine wpAnyH_take (i := 8) (oi := ({ dst := some 25, op := Go.Op.binOp Go.BinOp.neq 56 (Go.Operand.tmp 20) (Go.Operand.tmp 24) 56, type := 4, pos := "law.go:24", after := #[{ on := 3, ground := Go.Ground.data }, { on := 7, ground := Go.Ground.data }], guard := none } : Go.Oper)) (v := .bool false) rfl (by kernel_rfl) (by kernel_rfl) (by kernel_rfl) (fun _ _ _ h => h) (Or.inl ⟨by rfl, ?_⟩) (by assumption) ?_
      · intro wx hSw
        try dsimp only at hSw
        have u1 := hx1 wx hSw
        have u2 := hy1 wx hSw
        have u3 := hx2 wx hSw
        have u4 := hy2 wx hSw
        go_simp
        try with_reducible rfl
      try simp only [Act.put, List.setIfInBounds_toArray, List.set_cons_zero, List.set_cons_succ]
      refine wpAnyH_done (by kernel_rfl) ?_ _
      go_wp2
      go_roundw
      case rel => exact ⟨i + 1, by omega, by simp, bt hb hHeld⟩
      case measure => first | omega | (simp only [RowKit.intOf]; omega) | (simp [RowKit.intOf]; omega)
    · go_wp2
      go_ret
      exact ⟨rfl, hb⟩
end Go.Proofs.Ytiglaalppaljbaa
