/- The document's Apart. -/
import Derived.Test.YtlbdecjppgjdiaaDTe
import Derived.Test.YtlbdecjppgjdiaaDRd
namespace Go.Proofs.Ytlbdecjppgjdiaa
open Go.RowKit Go.Maps Go.Lib
set_option maxRecDepth 100000
set_option linter.unusedVariables false
set_option linter.unusedSimpArgs false


theorem GO.set {w : World} {R : Bk} {g n c : Nat} {G : List Bool} (h : GO w R (.slice (some ⟨g, 0, none⟩) n c) G) (hn : n = G.length) (k : Nat) : GO (w.setCell ⟨g, k, none⟩ (.bool true)) R (.slice (some ⟨g, 0, none⟩) n c) (G.set k true) := by
  subst hn
  have := OwnP.stored h k (.bool true)
  unfold GO
  rw [List.length_set, List.map_set]
  exact this
/-- What a range makes of a byte, by the document. -/
def okD (Q : Ru) (r : Rg) (k : Nat) : Prop := roB Q r.1 = true ∧ roB Q r.2 = true ∧ aheadV r.1 r.2 = true ∧ roN Q r.1 ≤ k ∧ k < roN Q r.2
structure GA (Q : Ru) (rs : List Rg) (G : List Bool) : Prop where
  len : G.length = Q.G.length
  iff : ∀ k, k < Q.G.length → (G[k]? = some true ↔ Q.G[k]? = some true ∨ ∃ r ∈ rs, okD Q r k)
theorem GA.skip {Q : Ru} {rs : List Rg} {G : List Bool} (h : GA Q rs G) (r : Rg) (hn : ∀ k, ¬ okD Q r k) : GA Q (rs ++ [r]) G := by
  refine ⟨h.len, fun k hk => (h.iff k hk).trans ⟨?_, ?_⟩⟩
  · rintro (h1 | ⟨x, hx, h1⟩)
    · exact Or.inl h1
    · exact Or.inr ⟨x, List.mem_append_left _ hx, h1⟩
  · rintro (h1 | ⟨x, hx, h1⟩)
    · exact Or.inl h1
    · rcases List.mem_append.1 hx with hx | hx
      · exact Or.inr ⟨x, hx, h1⟩
      · obtain rfl := List.mem_singleton.1 hx
        exact absurd h1 (hn k)
theorem GA.put {Q : Ru} {rs : List Rg} {G G' : List Bool} (h : GA Q rs G) (r : Rg) (hr : roB Q r.1 = true ∧ roB Q r.2 = true ∧ aheadV r.1 r.2 = true) (hl : G'.length = G.length) (hG : ∀ k, k < G.length → (G'[k]? = some true ↔ G[k]? = some true ∨ (roN Q r.1 ≤ k ∧ k < roN Q r.2))) : GA Q (rs ++ [r]) G' := by
  refine ⟨hl.trans h.len, fun k hk => (hG k (by rw [h.len]; exact hk)).trans ⟨?_, ?_⟩⟩
  · rintro (h1 | h1)
    · rcases (h.iff k hk).1 h1 with h2 | ⟨x, hx, h2⟩
      · exact Or.inl h2
      · exact Or.inr ⟨x, List.mem_append_left _ hx, h2⟩
    · exact Or.inr ⟨r, List.mem_append_right _ (List.mem_singleton.2 rfl), hr.1, hr.2.1, hr.2.2, h1⟩
  · rintro (h1 | ⟨x, hx, h1⟩)
    · exact Or.inl ((h.iff k hk).2 (Or.inl h1))
    · rcases List.mem_append.1 hx with hx | hx
      · exact Or.inl ((h.iff k hk).2 (Or.inr ⟨x, hx, h1⟩))
      · obtain rfl := List.mem_singleton.1 hx
        exact Or.inr h1.2.2.2
def cntG (G : List Bool) (n : Nat) : Nat := ((G.take n).filter (· == true)).length
theorem cntG_succ {G : List Bool} {n : Nat} {b : Bool} (h : G[n]? = some b) : cntG G (n + 1) = cntG G n + (if b = true then 1 else 0) := by
  unfold cntG
  rw [List.take_add_one, h]
  cases b <;> simp
set_option maxHeartbeats 4000000 in
theorem rapart_any {w : World} {R : Bk} {r : Nat} {Q : Ru} {vg v : Value} {rs : List Rg} (h : RX w R r Q vg) (hf : Q.Fine) (hr : RR w v rs) (hn : rs.length ≤ 100000) :
    Calls Try.prog 32 #[PR r, v] w fun e w' => ∃ G, e = .returned (.int .i64 (cntG G Q.sent : Int)) ∧ GA Q rs G ∧ RX w' R r { Q with G := G } vg ∧ TD R w w' := by
  have HF : Hid Q.Fine := hf
  have HR : Hid (RR w v rs) := hr
  have HX : Hid (RX w R r Q vg) := h
  have hs6 : Q.sent ≤ 65536 := by have := hf.sn; have := hf.ln; have := hf.r1; omega
  have hsn := hf.sn
  have hsg : Q.sent ≤ Q.G.length := by have := hf.gl; omega
  obtain ⟨a, c, rfl, -⟩ := hr
  obtain ⟨ag, cg, eg, hg0, hgc, -⟩ := h.go.shape
  subst eg
  clear hf h
  go_enter Try.func32, Try.ntmps32
  go_wp2
  go_loopw [5] (fun s5 W => ∃ (i : Nat) (G : List Bool), i ≤ rs.length ∧ s5 = .int .i64 (i : Int) ∧ Hid (GA Q (rs.take i) G ∧ RX W R r { Q with G := G } (.slice ag Q.G.length cg) ∧ TD R w W)) (fun s5 _ => rs.length - (RowKit.intOf s5).toNat)
  case atStart => exact ⟨0, Q.G, Nat.zero_le _, rfl, ⟨rfl, fun k hk => by simp⟩, HX.out, TY.refl _⟩
  case round =>
    obtain ⟨i, G, hin, rfl, HI⟩ := hrel
    obtain ⟨hGA, hX, hT⟩ := HI.out
    have hfG : ({ Q with G := G } : Ru).Fine := ⟨HF.out.r0, HF.out.r1, HF.out.l0, HF.out.l1, HF.out.ln, HF.out.sn, hGA.len.trans HF.out.gl⟩
    by_cases hlt : i < rs.length
    · obtain ⟨q, hrr⟩ : ∃ q, rs[i]? = some q := ⟨_, List.getElem?_eq_getElem hlt⟩
      obtain ⟨a1, c1, hv, hcells⟩ := HR.out.keep hT (by decide)
      cases hv
      obtain ⟨b, off, rfl, hkb, r0, r1⟩ := hcells i q hrr
      have hltI : (i : Int) < (rs.length : Int) := by omega
      have HRR : Hid (rs[i]? = some q) := hrr
      obtain ⟨d1, hd1⟩ : ∃ x, x = if roB Q q.1 = true then (roN Q q.1 : Int) else -1 := ⟨_, rfl⟩
      obtain ⟨d2, hd2⟩ : ∃ x, x = if roB Q q.2 = true then (roN Q q.2 : Int) else -1 := ⟨_, rfl⟩
      have hc1 : ∀ W, Below wr.heap.size wr W → Calls Try.prog 47 #[PR r, .int .i64 q.1] W fun e w' => e = .returned (.int .i64 d1) ∧ w' = W := fun W hW => by rw [hd1]; exact off_any (hX.later hW) hfG q.1
      have hc2 : ∀ W, Below wr.heap.size wr W → Calls Try.prog 47 #[PR r, .int .i64 q.2] W fun e w' => e = .returned (.int .i64 d2) ∧ w' = W := fun W hW => by rw [hd2]; exact off_any (hX.later hW) hfG q.2
      have hc3 : ∀ W, Calls Try.prog 48 #[.int .i64 q.1, .int .i64 q.2] W fun e w' => e = .returned (.tuple #[.bool (aheadV q.1 q.2), .int .i64 (codeOf (numB q.1 && numB q.2))]) ∧ w' = W := fun W => rahd_any q.1 q.2 W
      have e0 : ∀ W, Below wr.heap.size wr W → W.cell? ⟨b, off + i * 2, none⟩ = some (.int .i64 q.1) := fun W hW => later hW r0
      have e1 : ∀ W, Below wr.heap.size wr W → W.cell? ⟨b, off + i * 2 + 1, none⟩ = some (.int .i64 q.2) := fun W hW => later hW r1
      have HD : Hid (d1 = (if roB Q q.1 = true then (roN Q q.1 : Int) else -1) ∧ d2 = if roB Q q.2 = true then (roN Q q.2 : Int) else -1) := ⟨hd1, hd2⟩
      have HXr : Hid (RX wr R r { Q with G := G } (.slice ag Q.G.length cg)) := hX
      have HTk : Hid (TD R w wr) := hT
      have HGA : Hid (GA Q (rs.take i) G) := hGA
      clear hd1 hd2 hcells hrr HI hX hT hGA hfG hkb
      go_upto_region 4 with fail
      refine wp_region_held_drew (S := (fun W => Below wr.heap.size wr W)) (by kernel_rfl) ?_ (fun hHeld => ?_)
      · first | exact (Below.refl _ _).drew | assumption
      refine wpAnyH_take (i := 0) (oi := ({ dst := some 19, op := Go.Op.move (Go.Operand.tmp 0), type := 27, pos := "ref.go:73", after := #[], guard := none } : Go.Oper)) (v := .pointer (some ⟨r, 0, none⟩)) rfl (by kernel_rfl) (by kernel_rfl) (by kernel_rfl) (fun _ _ _ h => h) (Or.inl ⟨by rfl, ?_⟩) (by assumption) ?_
      · intro wx hSw
        try dsimp only at hSw
        have u0 := e0 wx hSw
        have u1 := e1 wx hSw
        go_simp
        try with_reducible rfl
      try simp only [Act.put, List.setIfInBounds_toArray, List.set_cons_zero, List.set_cons_succ]
      refine wpAnyH_take (i := 1) (oi := ({ dst := some 20, op := Go.Op.move (Go.Operand.tmp 1), type := 31, pos := "ref.go:73", after := #[], guard := none } : Go.Oper)) (v := .slice (some ⟨b, off, none⟩) rs.length c) rfl (by kernel_rfl) (by kernel_rfl) (by kernel_rfl) (fun _ _ _ h => h) (Or.inl ⟨by rfl, ?_⟩) (by assumption) ?_
      · intro wx hSw
        try dsimp only at hSw
        have u0 := e0 wx hSw
        have u1 := e1 wx hSw
        go_simp
        try with_reducible rfl
      try simp only [Act.put, List.setIfInBounds_toArray, List.set_cons_zero, List.set_cons_succ]
      refine wpAnyH_take (i := 2) (oi := ({ dst := some 21, op := Go.Op.move (Go.Operand.tmp 5), type := 3, pos := "ref.go:73", after := #[], guard := none } : Go.Oper)) (v := .int .i64 (i : Int)) rfl (by kernel_rfl) (by kernel_rfl) (by kernel_rfl) (fun _ _ _ h => h) (Or.inl ⟨by rfl, ?_⟩) (by assumption) ?_
      · intro wx hSw
        try dsimp only at hSw
        have u0 := e0 wx hSw
        have u1 := e1 wx hSw
        go_simp
        try with_reducible rfl
      try simp only [Act.put, List.setIfInBounds_toArray, List.set_cons_zero, List.set_cons_succ]
      refine wpAnyH_take (i := 3) (oi := ({ dst := some 22, op := Go.Op.indexAddr 31 (Go.Operand.tmp 20) (Go.Operand.tmp 21), type := 0, pos := "ref.go:73", after := #[{ on := 1, ground := Go.Ground.data }, { on := 2, ground := Go.Ground.data }], guard := none } : Go.Oper)) (v := .pointer (some ⟨b, off + i * 2, none⟩)) rfl (by kernel_rfl) (by kernel_rfl) (by kernel_rfl) (fun _ _ _ h => h) (Or.inl ⟨by rfl, ?_⟩) (by assumption) ?_
      · intro wx hSw
        try dsimp only at hSw
        have u0 := e0 wx hSw
        have u1 := e1 wx hSw
        go_simp
        try with_reducible rfl
      try simp only [Act.put, List.setIfInBounds_toArray, List.set_cons_zero, List.set_cons_succ]
      refine wpAnyH_take (i := 4) (oi := ({ dst := some 23, op := Go.Op.fieldAddr 60 (Go.Operand.tmp 22) 0, type := 0, pos := "ref.go:73", after := #[{ on := 3, ground := Go.Ground.data }], guard := none } : Go.Oper)) (v := .pointer (some ⟨b, off + i * 2, none⟩)) rfl (by kernel_rfl) (by kernel_rfl) (by kernel_rfl) (fun _ _ _ h => h) (Or.inl ⟨by rfl, ?_⟩) (by assumption) ?_
      · intro wx hSw
        try dsimp only at hSw
        have u0 := e0 wx hSw
        have u1 := e1 wx hSw
        go_simp
        try with_reducible rfl
      try simp only [Act.put, List.setIfInBounds_toArray, List.set_cons_zero, List.set_cons_succ]
      refine wpAnyH_take (i := 5) (oi := ({ dst := some 24, op := Go.Op.load 3 (Go.Operand.tmp 23), type := 3, pos := "ref.go:73", after := #[{ on := 4, ground := Go.Ground.data }], guard := none } : Go.Oper)) (v := .int .i64 q.1) rfl (by kernel_rfl) (by kernel_rfl) (by kernel_rfl) (fun _ _ _ h => h) (Or.inl ⟨by rfl, ?_⟩) (by assumption) ?_
      · intro wx hSw
        try dsimp only at hSw
        have u0 := e0 wx hSw
        have u1 := e1 wx hSw
        go_simp
        try with_reducible rfl
      try simp only [Act.put, List.setIfInBounds_toArray, List.set_cons_zero, List.set_cons_succ]
      refine wpAnyH_take (i := 7) (oi := ({ dst := some 26, op := Go.Op.move (Go.Operand.tmp 0), type := 27, pos := "ref.go:73", after := #[], guard := none } : Go.Oper)) (v := .pointer (some ⟨r, 0, none⟩)) rfl (by kernel_rfl) (by kernel_rfl) (by kernel_rfl) (fun _ _ _ h => h) (Or.inl ⟨by rfl, ?_⟩) (by assumption) ?_
      · intro wx hSw
        try dsimp only at hSw
        have u0 := e0 wx hSw
        have u1 := e1 wx hSw
        go_simp
        try with_reducible rfl
      try simp only [Act.put, List.setIfInBounds_toArray, List.set_cons_zero, List.set_cons_succ]
      refine wpAnyH_take (i := 8) (oi := ({ dst := some 27, op := Go.Op.move (Go.Operand.tmp 1), type := 31, pos := "ref.go:73", after := #[], guard := none } : Go.Oper)) (v := .slice (some ⟨b, off, none⟩) rs.length c) rfl (by kernel_rfl) (by kernel_rfl) (by kernel_rfl) (fun _ _ _ h => h) (Or.inl ⟨by rfl, ?_⟩) (by assumption) ?_
      · intro wx hSw
        try dsimp only at hSw
        have u0 := e0 wx hSw
        have u1 := e1 wx hSw
        go_simp
        try with_reducible rfl
      try simp only [Act.put, List.setIfInBounds_toArray, List.set_cons_zero, List.set_cons_succ]
      refine wpAnyH_take (i := 9) (oi := ({ dst := some 28, op := Go.Op.move (Go.Operand.tmp 5), type := 3, pos := "ref.go:73", after := #[], guard := none } : Go.Oper)) (v := .int .i64 (i : Int)) rfl (by kernel_rfl) (by kernel_rfl) (by kernel_rfl) (fun _ _ _ h => h) (Or.inl ⟨by rfl, ?_⟩) (by assumption) ?_
      · intro wx hSw
        try dsimp only at hSw
        have u0 := e0 wx hSw
        have u1 := e1 wx hSw
        go_simp
        try with_reducible rfl
      try simp only [Act.put, List.setIfInBounds_toArray, List.set_cons_zero, List.set_cons_succ]
      refine wpAnyH_take (i := 10) (oi := ({ dst := some 29, op := Go.Op.indexAddr 31 (Go.Operand.tmp 27) (Go.Operand.tmp 28), type := 0, pos := "ref.go:73", after := #[{ on := 8, ground := Go.Ground.data }, { on := 9, ground := Go.Ground.data }], guard := none } : Go.Oper)) (v := .pointer (some ⟨b, off + i * 2, none⟩)) rfl (by kernel_rfl) (by kernel_rfl) (by kernel_rfl) (fun _ _ _ h => h) (Or.inl ⟨by rfl, ?_⟩) (by assumption) ?_
      · intro wx hSw
        try dsimp only at hSw
        have u0 := e0 wx hSw
        have u1 := e1 wx hSw
        go_simp
        try with_reducible rfl
      try simp only [Act.put, List.setIfInBounds_toArray, List.set_cons_zero, List.set_cons_succ]
      refine wpAnyH_take (i := 11) (oi := ({ dst := some 30, op := Go.Op.fieldAddr 60 (Go.Operand.tmp 29) 1, type := 0, pos := "ref.go:73", after := #[{ on := 10, ground := Go.Ground.data }], guard := none } : Go.Oper)) (v := .pointer (some ⟨b, off + i * 2 + 1, none⟩)) rfl (by kernel_rfl) (by kernel_rfl) (by kernel_rfl) (fun _ _ _ h => h) (Or.inl ⟨by rfl, ?_⟩) (by assumption) ?_
      · intro wx hSw
        try dsimp only at hSw
        have u0 := e0 wx hSw
        have u1 := e1 wx hSw
        go_simp
        try with_reducible rfl
      try simp only [Act.put, List.setIfInBounds_toArray, List.set_cons_zero, List.set_cons_succ]
      refine wpAnyH_take (i := 12) (oi := ({ dst := some 31, op := Go.Op.load 3 (Go.Operand.tmp 30), type := 3, pos := "ref.go:73", after := #[{ on := 11, ground := Go.Ground.data }], guard := none } : Go.Oper)) (v := .int .i64 q.2) rfl (by kernel_rfl) (by kernel_rfl) (by kernel_rfl) (fun _ _ _ h => h) (Or.inl ⟨by rfl, ?_⟩) (by assumption) ?_
      · intro wx hSw
        try dsimp only at hSw
        have u0 := e0 wx hSw
        have u1 := e1 wx hSw
        go_simp
        try with_reducible rfl
      try simp only [Act.put, List.setIfInBounds_toArray, List.set_cons_zero, List.set_cons_succ]
      refine wpAnyH_ready (rs := [6]) (by kernel_rfl) (by simp) ?_
      refine AllReadyH.cons (o := ({ dst := some 25, op := Go.Op.call { callee := Go.Callee.value (Go.Operand.func 47), args := #[Go.Operand.tmp 19, Go.Operand.tmp 24], argTypes := #[27, 3] }, type := 3, pos := "ref.go:73", after := #[{ on := 0, ground := Go.Ground.data }, { on := 5, ground := Go.Ground.data }], guard := none } : Go.Oper)) rfl (fun K hK => ?_) AllReadyH.nil
      go_simp
      refine (hc1 _ hHeld).mono ?_
      rintro e wk ⟨rfl, rfl⟩
      refine hK.out _ _ hHeld (fun hHeld => ?_)
      clear hK K
      try simp only [Act.put, List.setIfInBounds_toArray, List.set_cons_zero, List.set_cons_succ]
      refine wpAnyH_ready (rs := [13]) (by kernel_rfl) (by simp) ?_
      refine AllReadyH.cons (o := ({ dst := some 32, op := Go.Op.call { callee := Go.Callee.value (Go.Operand.func 47), args := #[Go.Operand.tmp 26, Go.Operand.tmp 31], argTypes := #[27, 3] }, type := 3, pos := "ref.go:73", after := #[{ on := 7, ground := Go.Ground.data }, { on := 12, ground := Go.Ground.data }, { on := 6, ground := Go.Ground.chain }], guard := none } : Go.Oper)) rfl (fun K hK => ?_) AllReadyH.nil
      go_simp
      refine (hc2 _ hHeld).mono ?_
      rintro e wk ⟨rfl, rfl⟩
      refine hK.out _ _ hHeld (fun hHeld => ?_)
      clear hK K
      try simp only [Act.put, List.setIfInBounds_toArray, List.set_cons_zero, List.set_cons_succ]
      refine wpAnyH_take (i := 14) (oi := ({ dst := some 6, op := Go.Op.assign (Go.Operand.tmp 25), type := 3, pos := "ref.go:73", after := #[{ on := 6, ground := Go.Ground.data }, { on := 13, ground := Go.Ground.chain }, { on := 0, ground := Go.Ground.phase }, { on := 1, ground := Go.Ground.phase }, { on := 2, ground := Go.Ground.phase }, { on := 3, ground := Go.Ground.phase }, { on := 4, ground := Go.Ground.phase }, { on := 5, ground := Go.Ground.phase }, { on := 6, ground := Go.Ground.phase }, { on := 7, ground := Go.Ground.textOnly Go.Departure.lateStores }, { on := 8, ground := Go.Ground.textOnly Go.Departure.lateStores }, { on := 9, ground := Go.Ground.textOnly Go.Departure.lateStores }, { on := 10, ground := Go.Ground.textOnly Go.Departure.lateStores }, { on := 11, ground := Go.Ground.textOnly Go.Departure.lateStores }, { on := 12, ground := Go.Ground.textOnly Go.Departure.lateStores }, { on := 13, ground := Go.Ground.textOnly Go.Departure.lateStoresUnsure }], guard := none } : Go.Oper)) (v := .int .i64 d1) rfl (by kernel_rfl) (by kernel_rfl) (by kernel_rfl) (fun _ _ _ h => h) (Or.inl ⟨by rfl, ?_⟩) (by assumption) ?_
      · intro wx hSw
        try dsimp only at hSw
        have u0 := e0 wx hSw
        have u1 := e1 wx hSw
        go_simp
        try with_reducible rfl
      try simp only [Act.put, List.setIfInBounds_toArray, List.set_cons_zero, List.set_cons_succ]
      refine wpAnyH_take (i := 15) (oi := ({ dst := some 7, op := Go.Op.assign (Go.Operand.tmp 32), type := 3, pos := "ref.go:73", after := #[{ on := 13, ground := Go.Ground.data }, { on := 14, ground := Go.Ground.chain }, { on := 0, ground := Go.Ground.phase }, { on := 1, ground := Go.Ground.phase }, { on := 2, ground := Go.Ground.phase }, { on := 3, ground := Go.Ground.phase }, { on := 4, ground := Go.Ground.phase }, { on := 5, ground := Go.Ground.phase }, { on := 6, ground := Go.Ground.phase }, { on := 7, ground := Go.Ground.phase }, { on := 8, ground := Go.Ground.phase }, { on := 9, ground := Go.Ground.phase }, { on := 10, ground := Go.Ground.phase }, { on := 11, ground := Go.Ground.phase }, { on := 12, ground := Go.Ground.phase }, { on := 13, ground := Go.Ground.phase }, { on := 14, ground := Go.Ground.phase }], guard := none } : Go.Oper)) (v := .int .i64 d2) rfl (by kernel_rfl) (by kernel_rfl) (by kernel_rfl) (fun _ _ _ h => h) (Or.inl ⟨by rfl, ?_⟩) (by assumption) ?_
      · intro wx hSw
        try dsimp only at hSw
        have u0 := e0 wx hSw
        have u1 := e1 wx hSw
        go_simp
        try with_reducible rfl
      try simp only [Act.put, List.setIfInBounds_toArray, List.set_cons_zero, List.set_cons_succ]
      refine wpAnyH_done (by kernel_rfl) ?_ _
      have bd : Below wr.heap.size wr wr.drew := (Below.refl _ _).drew
      have HXd : Hid (RX wr.drew R r { Q with G := G } (.slice ag Q.G.length cg)) := HXr.out.later bd
      have HTd : Hid (TD R w wr.drew) := HTk.out.later bd
      have g0 : ∀ W, Below wr.drew.heap.size wr.drew W → W.cell? ⟨b, off + i * 2, none⟩ = some (.int .i64 q.1) := fun W hW => e0 W (bt bd hW)
      have g1 : ∀ W, Below wr.drew.heap.size wr.drew W → W.cell? ⟨b, off + i * 2 + 1, none⟩ = some (.int .i64 q.2) := fun W hW => e1 W (bt bd hW)
      clear hHeld bd HXr HTk e0 e1 r0 r1 hc1 hc2
      generalize wr.drew = wd at *
      obtain ⟨ah, hah⟩ : ∃ x, x = aheadV q.1 q.2 := ⟨_, rfl⟩
      obtain ⟨cd, hcd⟩ : ∃ x, x = codeOf (numB q.1 && numB q.2) := ⟨_, rfl⟩
      rw [← hah, ← hcd] at hc3
      have HAH : Hid (ah = aheadV q.1 q.2 ∧ cd = codeOf (numB q.1 && numB q.2)) := ⟨hah, hcd⟩
      clear hah hcd
      go_upto_region 5 with fail
      refine wp_region_held_drew (S := (fun W => Below wd.heap.size wd W)) (by kernel_rfl) ?_ (fun hHeld => ?_)
      · first | exact (Below.refl _ _).drew | assumption
      refine wpAnyH_take (i := 0) (oi := ({ dst := some 34, op := Go.Op.move (Go.Operand.tmp 1), type := 31, pos := "ref.go:74", after := #[], guard := none } : Go.Oper)) (v := .slice (some ⟨b, off, none⟩) rs.length c) rfl (by kernel_rfl) (by kernel_rfl) (by kernel_rfl) (fun _ _ _ h => h) (Or.inl ⟨by rfl, ?_⟩) (by assumption) ?_
      · intro wx hSw
        try dsimp only at hSw
        have u0 := g0 wx hSw
        have u1 := g1 wx hSw
        go_simp
        try with_reducible rfl
      try simp only [Act.put, List.setIfInBounds_toArray, List.set_cons_zero, List.set_cons_succ]
      refine wpAnyH_take (i := 1) (oi := ({ dst := some 35, op := Go.Op.move (Go.Operand.tmp 5), type := 3, pos := "ref.go:74", after := #[], guard := none } : Go.Oper)) (v := .int .i64 (i : Int)) rfl (by kernel_rfl) (by kernel_rfl) (by kernel_rfl) (fun _ _ _ h => h) (Or.inl ⟨by rfl, ?_⟩) (by assumption) ?_
      · intro wx hSw
        try dsimp only at hSw
        have u0 := g0 wx hSw
        have u1 := g1 wx hSw
        go_simp
        try with_reducible rfl
      try simp only [Act.put, List.setIfInBounds_toArray, List.set_cons_zero, List.set_cons_succ]
      refine wpAnyH_take (i := 2) (oi := ({ dst := some 36, op := Go.Op.indexAddr 31 (Go.Operand.tmp 34) (Go.Operand.tmp 35), type := 0, pos := "ref.go:74", after := #[{ on := 0, ground := Go.Ground.data }, { on := 1, ground := Go.Ground.data }], guard := none } : Go.Oper)) (v := .pointer (some ⟨b, off + i * 2, none⟩)) rfl (by kernel_rfl) (by kernel_rfl) (by kernel_rfl) (fun _ _ _ h => h) (Or.inl ⟨by rfl, ?_⟩) (by assumption) ?_
      · intro wx hSw
        try dsimp only at hSw
        have u0 := g0 wx hSw
        have u1 := g1 wx hSw
        go_simp
        try with_reducible rfl
      try simp only [Act.put, List.setIfInBounds_toArray, List.set_cons_zero, List.set_cons_succ]
      refine wpAnyH_take (i := 3) (oi := ({ dst := some 37, op := Go.Op.fieldAddr 60 (Go.Operand.tmp 36) 0, type := 0, pos := "ref.go:74", after := #[{ on := 2, ground := Go.Ground.data }], guard := none } : Go.Oper)) (v := .pointer (some ⟨b, off + i * 2, none⟩)) rfl (by kernel_rfl) (by kernel_rfl) (by kernel_rfl) (fun _ _ _ h => h) (Or.inl ⟨by rfl, ?_⟩) (by assumption) ?_
      · intro wx hSw
        try dsimp only at hSw
        have u0 := g0 wx hSw
        have u1 := g1 wx hSw
        go_simp
        try with_reducible rfl
      try simp only [Act.put, List.setIfInBounds_toArray, List.set_cons_zero, List.set_cons_succ]
      refine wpAnyH_take (i := 4) (oi := ({ dst := some 38, op := Go.Op.load 3 (Go.Operand.tmp 37), type := 3, pos := "ref.go:74", after := #[{ on := 3, ground := Go.Ground.data }], guard := none } : Go.Oper)) (v := .int .i64 q.1) rfl (by kernel_rfl) (by kernel_rfl) (by kernel_rfl) (fun _ _ _ h => h) (Or.inl ⟨by rfl, ?_⟩) (by assumption) ?_
      · intro wx hSw
        try dsimp only at hSw
        have u0 := g0 wx hSw
        have u1 := g1 wx hSw
        go_simp
        try with_reducible rfl
      try simp only [Act.put, List.setIfInBounds_toArray, List.set_cons_zero, List.set_cons_succ]
      refine wpAnyH_take (i := 5) (oi := ({ dst := some 39, op := Go.Op.move (Go.Operand.tmp 1), type := 31, pos := "ref.go:74", after := #[], guard := none } : Go.Oper)) (v := .slice (some ⟨b, off, none⟩) rs.length c) rfl (by kernel_rfl) (by kernel_rfl) (by kernel_rfl) (fun _ _ _ h => h) (Or.inl ⟨by rfl, ?_⟩) (by assumption) ?_
      · intro wx hSw
        try dsimp only at hSw
        have u0 := g0 wx hSw
        have u1 := g1 wx hSw
        go_simp
        try with_reducible rfl
      try simp only [Act.put, List.setIfInBounds_toArray, List.set_cons_zero, List.set_cons_succ]
      refine wpAnyH_take (i := 6) (oi := ({ dst := some 40, op := Go.Op.move (Go.Operand.tmp 5), type := 3, pos := "ref.go:74", after := #[], guard := none } : Go.Oper)) (v := .int .i64 (i : Int)) rfl (by kernel_rfl) (by kernel_rfl) (by kernel_rfl) (fun _ _ _ h => h) (Or.inl ⟨by rfl, ?_⟩) (by assumption) ?_
      · intro wx hSw
        try dsimp only at hSw
        have u0 := g0 wx hSw
        have u1 := g1 wx hSw
        go_simp
        try with_reducible rfl
      try simp only [Act.put, List.setIfInBounds_toArray, List.set_cons_zero, List.set_cons_succ]
      refine wpAnyH_take (i := 7) (oi := ({ dst := some 41, op := Go.Op.indexAddr 31 (Go.Operand.tmp 39) (Go.Operand.tmp 40), type := 0, pos := "ref.go:74", after := #[{ on := 5, ground := Go.Ground.data }, { on := 6, ground := Go.Ground.data }], guard := none } : Go.Oper)) (v := .pointer (some ⟨b, off + i * 2, none⟩)) rfl (by kernel_rfl) (by kernel_rfl) (by kernel_rfl) (fun _ _ _ h => h) (Or.inl ⟨by rfl, ?_⟩) (by assumption) ?_
      · intro wx hSw
        try dsimp only at hSw
        have u0 := g0 wx hSw
        have u1 := g1 wx hSw
        go_simp
        try with_reducible rfl
      try simp only [Act.put, List.setIfInBounds_toArray, List.set_cons_zero, List.set_cons_succ]
      refine wpAnyH_take (i := 8) (oi := ({ dst := some 42, op := Go.Op.fieldAddr 60 (Go.Operand.tmp 41) 1, type := 0, pos := "ref.go:74", after := #[{ on := 7, ground := Go.Ground.data }], guard := none } : Go.Oper)) (v := .pointer (some ⟨b, off + i * 2 + 1, none⟩)) rfl (by kernel_rfl) (by kernel_rfl) (by kernel_rfl) (fun _ _ _ h => h) (Or.inl ⟨by rfl, ?_⟩) (by assumption) ?_
      · intro wx hSw
        try dsimp only at hSw
        have u0 := g0 wx hSw
        have u1 := g1 wx hSw
        go_simp
        try with_reducible rfl
      try simp only [Act.put, List.setIfInBounds_toArray, List.set_cons_zero, List.set_cons_succ]
      refine wpAnyH_take (i := 9) (oi := ({ dst := some 43, op := Go.Op.load 3 (Go.Operand.tmp 42), type := 3, pos := "ref.go:74", after := #[{ on := 8, ground := Go.Ground.data }], guard := none } : Go.Oper)) (v := .int .i64 q.2) rfl (by kernel_rfl) (by kernel_rfl) (by kernel_rfl) (fun _ _ _ h => h) (Or.inl ⟨by rfl, ?_⟩) (by assumption) ?_
      · intro wx hSw
        try dsimp only at hSw
        have u0 := g0 wx hSw
        have u1 := g1 wx hSw
        go_simp
        try with_reducible rfl
      try simp only [Act.put, List.setIfInBounds_toArray, List.set_cons_zero, List.set_cons_succ]
      refine wpAnyH_ready (rs := [10]) (by kernel_rfl) (by simp) ?_
      refine AllReadyH.cons (o := ({ dst := some 44, op := Go.Op.call { callee := Go.Callee.value (Go.Operand.func 48), args := #[Go.Operand.tmp 38, Go.Operand.tmp 43], argTypes := #[3, 3] }, type := 82, pos := "ref.go:74", after := #[{ on := 4, ground := Go.Ground.data }, { on := 9, ground := Go.Ground.data }], guard := none } : Go.Oper)) rfl (fun K hK => ?_) AllReadyH.nil
      go_simp
      refine (hc3 _).mono ?_
      rintro e wk ⟨rfl, rfl⟩
      refine hK.out _ _ hHeld (fun hHeld => ?_)
      clear hK K
      try simp only [Act.put, List.setIfInBounds_toArray, List.set_cons_zero, List.set_cons_succ]
      refine wpAnyH_take (i := 11) (oi := ({ dst := some 33, op := Go.Op.move (Go.Operand.tmp 44), type := 82, pos := "ref.go:74", after := #[{ on := 10, ground := Go.Ground.data }], guard := none } : Go.Oper)) (v := .tuple #[.bool ah, .int .i64 cd]) rfl (by kernel_rfl) (by kernel_rfl) (by kernel_rfl) (fun _ _ _ h => h) (Or.inl ⟨by rfl, ?_⟩) (by assumption) ?_
      · intro wx hSw
        try dsimp only at hSw
        have u0 := g0 wx hSw
        have u1 := g1 wx hSw
        go_simp
        try with_reducible rfl
      try simp only [Act.put, List.setIfInBounds_toArray, List.set_cons_zero, List.set_cons_succ]
      refine wpAnyH_take (i := 12) (oi := ({ dst := some 45, op := Go.Op.extract (Go.Operand.tmp 33) 0, type := 4, pos := "ref.go:74", after := #[{ on := 11, ground := Go.Ground.data }], guard := none } : Go.Oper)) (v := .bool ah) rfl (by kernel_rfl) (by kernel_rfl) (by kernel_rfl) (fun _ _ _ h => h) (Or.inl ⟨by rfl, ?_⟩) (by assumption) ?_
      · intro wx hSw
        try dsimp only at hSw
        have u0 := g0 wx hSw
        have u1 := g1 wx hSw
        go_simp
        try with_reducible rfl
      try simp only [Act.put, List.setIfInBounds_toArray, List.set_cons_zero, List.set_cons_succ]
      refine wpAnyH_take (i := 13) (oi := ({ dst := some 46, op := Go.Op.extract (Go.Operand.tmp 33) 1, type := 24, pos := "ref.go:74", after := #[{ on := 11, ground := Go.Ground.data }, { on := 14, ground := Go.Ground.gcOnly Go.Departure.lateStores }], guard := none } : Go.Oper)) (v := .int .i64 cd) rfl (by kernel_rfl) (by kernel_rfl) (by kernel_rfl) (fun _ _ _ h => h) (Or.inl ⟨by rfl, ?_⟩) (by assumption) ?_
      · intro wx hSw
        try dsimp only at hSw
        have u0 := g0 wx hSw
        have u1 := g1 wx hSw
        go_simp
        try with_reducible rfl
      try simp only [Act.put, List.setIfInBounds_toArray, List.set_cons_zero, List.set_cons_succ]
      refine wpAnyH_take (i := 14) (oi := ({ dst := some 8, op := Go.Op.assign (Go.Operand.tmp 45), type := 4, pos := "ref.go:74", after := #[{ on := 12, ground := Go.Ground.data }, { on := 10, ground := Go.Ground.chain }, { on := 0, ground := Go.Ground.phase }, { on := 1, ground := Go.Ground.phase }, { on := 2, ground := Go.Ground.phase }, { on := 3, ground := Go.Ground.phase }, { on := 4, ground := Go.Ground.phase }, { on := 5, ground := Go.Ground.phase }, { on := 6, ground := Go.Ground.phase }, { on := 7, ground := Go.Ground.phase }, { on := 8, ground := Go.Ground.phase }, { on := 9, ground := Go.Ground.phase }, { on := 10, ground := Go.Ground.phase }, { on := 11, ground := Go.Ground.phase }, { on := 12, ground := Go.Ground.phase }, { on := 13, ground := Go.Ground.textOnly Go.Departure.lateStores }], guard := none } : Go.Oper)) (v := .bool ah) rfl (by kernel_rfl) (by kernel_rfl) (by kernel_rfl) (fun _ _ _ h => h) (Or.inl ⟨by rfl, ?_⟩) (by assumption) ?_
      · intro wx hSw
        try dsimp only at hSw
        have u0 := g0 wx hSw
        have u1 := g1 wx hSw
        go_simp
        try with_reducible rfl
      try simp only [Act.put, List.setIfInBounds_toArray, List.set_cons_zero, List.set_cons_succ]
      refine wpAnyH_take (i := 15) (oi := ({ dst := some 9, op := Go.Op.assign (Go.Operand.tmp 46), type := 24, pos := "ref.go:74", after := #[{ on := 13, ground := Go.Ground.data }, { on := 14, ground := Go.Ground.chain }, { on := 0, ground := Go.Ground.phase }, { on := 1, ground := Go.Ground.phase }, { on := 2, ground := Go.Ground.phase }, { on := 3, ground := Go.Ground.phase }, { on := 4, ground := Go.Ground.phase }, { on := 5, ground := Go.Ground.phase }, { on := 6, ground := Go.Ground.phase }, { on := 7, ground := Go.Ground.phase }, { on := 8, ground := Go.Ground.phase }, { on := 9, ground := Go.Ground.phase }, { on := 10, ground := Go.Ground.phase }, { on := 11, ground := Go.Ground.phase }, { on := 12, ground := Go.Ground.phase }, { on := 13, ground := Go.Ground.phase }, { on := 14, ground := Go.Ground.phase }], guard := none } : Go.Oper)) (v := .int .i64 cd) rfl (by kernel_rfl) (by kernel_rfl) (by kernel_rfl) (fun _ _ _ h => h) (Or.inl ⟨by rfl, ?_⟩) (by assumption) ?_
      · intro wx hSw
        try dsimp only at hSw
        have u0 := g0 wx hSw
        have u1 := g1 wx hSw
        go_simp
        try with_reducible rfl
      try simp only [Act.put, List.setIfInBounds_toArray, List.set_cons_zero, List.set_cons_succ]
      refine wpAnyH_done (by kernel_rfl) ?_ _
      have bd : Below wd.heap.size wd wd.drew := (Below.refl _ _).drew
      have HXe : Hid (RX wd.drew R r { Q with G := G } (.slice ag Q.G.length cg)) := HXd.out.later bd
      have HTe : Hid (TD R w wd.drew) := HTd.out.later bd
      clear hHeld bd HXd HTd g0 g1 hc3
      generalize wd.drew = we at *
      have HSK : Hid ((∀ k, ¬ okD Q q k) → ∃ (i' : Nat) (G' : List Bool), i' ≤ rs.length ∧ Value.int .i64 ((i : Int) + 1) = .int .i64 (i' : Int) ∧ Hid (GA Q (rs.take i') G' ∧ RX we R r { Q with G := G' } (.slice ag Q.G.length cg) ∧ TD R w we)) := fun hno => ⟨i + 1, G, by omega, by first | rfl | simp, by rw [take_snocR HRR.out]; exact HGA.out.skip q hno, HXe.out, HTe.out⟩
      cases hB1 : roB Q q.1 with
      | false =>
        have hd1 : d1 = -1 := by have := HD.out.1; rw [hB1] at this; exact this
        subst hd1
        go_wp2
        go_roundw
        case rel => exact HSK.out (fun k hk => by have := hk.1; rw [hB1] at this; cases this)
        case measure => simp [RowKit.intOf]; omega
      | true =>
        cases hB2 : roB Q q.2 with
        | false =>
          have hd1 : d1 = (roN Q q.1 : Int) := by have := HD.out.1; rw [hB1] at this; exact this
          have hd2 : d2 = -1 := by have := HD.out.2; rw [hB2] at this; exact this
          subst hd2
          have hd10 : ¬ d1 < 0 := by omega
          have HD1 : Hid (d1 = (roN Q q.1 : Int)) := hd1
          clear hd1
          go_wp2
          go_roundw
          case rel => exact HSK.out (fun k hk => by have := hk.2.1; rw [hB2] at this; cases this)
          case measure => simp [RowKit.intOf]; omega
        | true =>
          have hd1 : d1 = (roN Q q.1 : Int) := by have := HD.out.1; rw [hB1] at this; exact this
          have hd2 : d2 = (roN Q q.2 : Int) := by have := HD.out.2; rw [hB2] at this; exact this
          obtain ⟨hn1, ho1⟩ := roB_t hB1
          obtain ⟨hn2, ho2⟩ := roB_t hB2
          have hcd : cd = 0 := by rw [HAH.out.2, hn1, hn2]; rfl
          obtain ⟨o1, hoe1⟩ : ∃ x, x = roN Q q.1 := ⟨_, rfl⟩
          obtain ⟨o2, hoe2⟩ : ∃ x, x = roN Q q.2 := ⟨_, rfl⟩
          rw [← hoe1] at hd1 ho1
          rw [← hoe2] at hd2 ho2
          subst hd1 hd2 hcd
          have HO : Hid (o1 = roN Q q.1 ∧ o2 = roN Q q.2 ∧ roB Q q.1 = true ∧ roB Q q.2 = true) := ⟨hoe1, hoe2, hB1, hB2⟩
          clear hoe1 hoe2 HD hn1 hn2 hB1 hB2
          have z1 : ¬ (o1 : Int) < 0 := by omega
          have z2 : ¬ (o2 : Int) < 0 := by omega
          cases ah with
          | false =>
            go_wp2
            go_roundw
            case rel => exact HSK.out (fun k hk => by have h1 := HAH.out.1; have h2 := hk.2.2.1; rw [← h1] at h2; cases h2)
            case measure => simp [RowKit.intOf]; omega
          | true =>
            clear HSK
            go_wp2
            go_loopw [10] (fun s10 W => ∃ (k : Nat) (G2 : List Bool), o1 ≤ k ∧ (k ≤ o2 ∨ k = o1) ∧ s10 = .int .i64 (k : Int) ∧ Hid (RX W R r { Q with G := G2 } (.slice ag Q.G.length cg) ∧ TD R we W ∧ G2.length = G.length ∧ ∀ j, j < G.length → (G2[j]? = some true ↔ G[j]? = some true ∨ (o1 ≤ j ∧ j < k)))) (fun s10 _ => o2 - (RowKit.intOf s10).toNat)
            case atStart => exact ⟨o1, G, Nat.le_refl _, Or.inr rfl, rfl, HXe.out, TY.refl _, rfl, fun j hj => ⟨Or.inl, fun h => by rcases h with h | h; exact h; omega⟩⟩
            case round =>
              obtain ⟨k, G2, hk1, hk2, rfl, HK⟩ := hrel
              obtain ⟨hX2, hT2, hl2, hG2⟩ := HK.out
              have hlG := HGA.out.len
              by_cases hko : k < o2
              · have hkI : (k : Int) < (o2 : Int) := by omega
                have hkG : (k : Int) < (Q.G.length : Int) := by omega
                have hk0 : (0 : Int) ≤ (k : Int) := by omega
                have c4 := (hX2.at5.2 4 _ rfl).1
                have hgo := hX2.go
                dsimp only at hgo
                obtain ⟨g, hag, hbk, hkg⟩ : ∃ g, ag = some ⟨g, 0, none⟩ ∧ Kd wr g 4 ∧ R g := by
                  rcases hgo.2 with ⟨e, e0⟩ | ⟨g, cap, cur, hv, hg, hb, -⟩
                  · omega
                  · injection hv with q1 q2 q3
                    exact ⟨g, q1, ⟨cur, (0, 0), hb⟩, hg⟩
                subst hag
                have hkl : k < G2.length := by omega
                have cck := hgo.cell (List.getElem?_eq_getElem hkl)
                have ffk : wr.frozen? ⟨g, k, none⟩ = false := by
                  rcases hgo.2 with ⟨e, e0⟩ | ⟨g', cap, cur, hv, hg, hb, -⟩
                  · cases e
                  · injection hv with q1 q2 q3
                    injection q1 with q1
                    injection q1 with q1
                    subst q1
                    simp [World.frozen?, hb]
                have hset := hgo.set (by omega) k
                have hne : r ≠ g := fun e => by subst e; exact absurd (hX2.kd.one hbk) (by decide)
                have HN : Hid (RX (wr.setCell ⟨g, k, none⟩ (.bool true)) R r { Q with G := G2.set k true } (.slice (some ⟨g, 0, none⟩) Q.G.length cg) ∧ TD R we (wr.setCell ⟨g, k, none⟩ (.bool true)) ∧ (G2.set k true).length = G.length ∧ ∀ j, j < G.length → ((G2.set k true)[j]? = some true ↔ G[j]? = some true ∨ (o1 ≤ j ∧ j < k + 1))) := by
                  refine ⟨⟨hX2.at5.turn (turn_set wr g k _) hne, hX2.kd.set _ _, hX2.ge, hset⟩, hT2.trans (TY.set hbk (by decide) hkg _ _), by rw [List.length_set]; exact hl2, fun j hj => ?_⟩
                  rw [List.getElem?_set]
                  by_cases e : k = j
                  · subst e
                    rw [if_pos rfl, if_pos hkl]
                    exact ⟨fun _ => Or.inr ⟨hk1, by omega⟩, fun _ => rfl⟩
                  · rw [if_neg e, hG2 j hj]
                    constructor
                    · rintro (h | h)
                      · exact Or.inl h
                      · exact Or.inr ⟨h.1, by omega⟩
                    · rintro (h | h)
                      · exact Or.inl h
                      · exact Or.inr ⟨h.1, by omega⟩
                generalize G2[k] = bb at cck
                clear HK hX2 hT2 hG2 hset hgo hbk
                go_wp2
                go_roundw
                case rel => exact ⟨k + 1, G2.set k true, by omega, Or.inl (by omega), by first | rfl | simp, HN⟩
                case measure => simp [RowKit.intOf]; omega
              · have hkI : ¬ (k : Int) < (o2 : Int) := by omega
                have HGN : Hid (GA Q (rs.take (i + 1)) G2) := by
                  show GA _ _ _
                  rw [take_snocR HRR.out]
                  refine HGA.out.put q ⟨HO.out.2.2.1, HO.out.2.2.2, HAH.out.1.symm⟩ hl2 (fun j hj => (hG2 j hj).trans ?_)
                  rw [← HO.out.1, ← HO.out.2.1]
                  constructor
                  · rintro (h | h)
                    · exact Or.inl h
                    · exact Or.inr ⟨h.1, by omega⟩
                  · rintro (h | h)
                    · exact Or.inl h
                    · exact Or.inr ⟨h.1, by omega⟩
                have HXN : Hid (RX wr R r { Q with G := G2 } (.slice ag Q.G.length cg) ∧ TD R w wr) := ⟨hX2, HTe.out.trans hT2⟩
                clear HK hX2 hT2 hG2
                go_wp2
                go_roundw
                case rel => exact ⟨i + 1, G2, by omega, by first | rfl | simp, HGN.out, HXN.out.1, HXN.out.2⟩
                case measure => simp [RowKit.intOf]; omega
    · obtain rfl : i = rs.length := by omega
      have hltI : ¬ (rs.length : Int) < (rs.length : Int) := by omega
      rw [List.take_length] at hGA
      have HGA : Hid (GA Q rs G) := hGA
      have HXr : Hid (RX wr R r { Q with G := G } (.slice ag Q.G.length cg)) := hX
      have HTk : Hid (TD R w wr) := hT
      have hgo := hX.go
      dsimp only at hgo
      have HGO : Hid (GO wr R (.slice ag Q.G.length cg) G) := hgo
      have hlG := hGA.len
      have c1 := (hX.at5.2 1 _ rfl).1
      have c4 := (hX.at5.2 4 _ rfl).1
      obtain ⟨wq, hwq⟩ : ∃ x, x = wr := ⟨_, rfl⟩
      rw [← hwq] at HXr HTk HGO c1 c4
      clear HI hGA hX hT hgo hfG
      go_wp2
      go_loopw [11, 12] (fun s11 s12 W => ∃ k : Nat, k ≤ Q.sent ∧ s12 = .int .i64 (k : Int) ∧ s11 = .int .i64 (cntG G k : Int) ∧ W = wq) (fun _ s12 _ => Q.sent - (RowKit.intOf s12).toNat)
      case atStart => exact ⟨0, Nat.zero_le _, rfl, by simp [cntG], hwq.symm⟩
      case round =>
        clear hwq
        obtain ⟨k, hk, rfl, rfl, rfl⟩ := hrel
        have hcl : cntG G k ≤ k := by unfold cntG; exact Nat.le_trans (List.length_filter_le _ _) (by rw [List.length_take]; omega)
        by_cases hks : k < Q.sent
        · have hkI : (k : Int) < (Q.sent : Int) := by omega
          have hkl : k < G.length := by omega
          have hkG : (k : Int) < (Q.G.length : Int) := by omega
          have hk0 : (0 : Int) ≤ (k : Int) := by omega
          obtain ⟨bb, hbb⟩ : ∃ bb, G[k]? = some bb := ⟨_, List.getElem?_eq_getElem hkl⟩
          obtain ⟨g, hag⟩ : ∃ g, ag = some ⟨g, 0, none⟩ := by
            rcases HGO.out.2 with ⟨e, e0⟩ | ⟨g, cap, cur, hv, -⟩
            · omega
            · injection hv with q1 q2 q3
              exact ⟨g, q1⟩
          subst hag
          have ck := HGO.out.cell hbb
          have HCS : Hid (cntG G (k + 1) = cntG G k + (if bb = true then 1 else 0)) := cntG_succ hbb
          have hci : (cntG G k : Int) ≤ 65536 := by omega
          clear hbb
          generalize cntG G k = cc at *
          cases bb with
          | true =>
            go_wp2
            go_roundw
            case rel => exact ⟨k + 1, by omega, by first | rfl | simp, by rw [HCS.out]; first | rfl | simp, by first | rfl | trivial⟩
            case measure => simp [RowKit.intOf]; omega
          | false =>
            go_wp2
            go_roundw
            case rel => exact ⟨k + 1, by omega, by first | rfl | simp, by rw [HCS.out]; first | rfl | simp, by first | rfl | trivial⟩
            case measure => simp [RowKit.intOf]; omega
        · obtain rfl : k = Q.sent := by omega
          have hkI : ¬ (Q.sent : Int) < (Q.sent : Int) := by omega
          go_wp2
          go_ret
          exact ⟨G, rfl, HGA.out, HXr.out, HTk.out⟩
end Go.Proofs.Ytlbdecjppgjdiaa
