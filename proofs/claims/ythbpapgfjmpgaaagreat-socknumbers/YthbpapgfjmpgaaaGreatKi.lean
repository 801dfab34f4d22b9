/- Ask. -/
import Derived.Test.YthbpapgfjmpgaaaGreatKh
namespace Go.Proofs.YthbpapgfjmpgaaaGreat
open Go.RowKit Go.Maps
set_option maxRecDepth 100000
set_option linter.unusedVariables false
set_option linter.unusedSimpArgs false


abbrev reqA (tag kind fd port : Int) : Array Value := #[.int .i64 tag, .int .i64 kind, .int .i64 fd, .int .i64 0, .int .i64 port, .int .i64 0, .string ⟨#[]⟩]
theorem At.seven {W : World} {b : Nat} {a0 a1 a2 a3 a4 a5 a6 : Value} (h : At W b #[a0, a1, a2, a3, a4, a5, a6]) : W.cell? ⟨b, 0, none⟩ = some a0 ∧ W.cell? ⟨b, 1, none⟩ = some a1 ∧ W.cell? ⟨b, 2, none⟩ = some a2 ∧ W.cell? ⟨b, 3, none⟩ = some a3 ∧ W.cell? ⟨b, 4, none⟩ = some a4 ∧ W.cell? ⟨b, 5, none⟩ = some a5 ∧ W.cell? ⟨b, 6, none⟩ = some a6 :=
  ⟨(h.2 0 _ rfl).1, (h.2 1 _ rfl).1, (h.2 2 _ rfl).1, (h.2 3 _ rfl).1, (h.2 4 _ rfl).1, (h.2 5 _ rfl).1, (h.2 6 _ rfl).1⟩
theorem app_wait {w : World} {v : Value} {X : Nat} {x : Value} (h : WR w v []) (hX : At w X #[x]) (h1 : x.oneCell' = true) (ty : TypeId) :
    ∃ g cap w', (Builtin.append_ #[52, 52] ty #[v, .slice (some ⟨X, 0, none⟩) 1 1]).run Tryz.prog w = .ok (.slice (some ⟨g, 0, none⟩) 1 cap) w' ∧ WR w' (.slice (some ⟨g, 0, none⟩) 1 cap) [x] ∧ Turn (fun k => v.ownBlock = some k) w w' ∧ (v.ownBlock = some g ∨ g = w.heap.size) := by
  obtain ⟨i0, hi, hz0, hz1, hz2⟩ := info_parts info56
  obtain ⟨v', w', e1, e2, e3, e4, e5⟩ := run_append_own_at (P := Tryz.prog) w 0 52 ty 56 i0 _ 1 8 Tryz.underlying52 hi hz0 hz1 hz2 rfl (by decide) v 0 [] h ⟨X, 0, none⟩ 1 1 [x] rfl (fun j u hu => by
    rw [Addr.add_mid, Nat.zero_add]
    exact (hX.2 j u (by simpa using hu)).1) (by intro u hu; simp at hu; subst hu; exact h1) (by unfold maxLen; omega) (by omega) (Nat.zero_le _)
  rcases e2.2 with ⟨-, h0⟩ | ⟨g, cap, cur, rfl, -⟩
  · omega
  · refine ⟨g, cap, w', e1, e2, (Turn.refl w).and e3 (fun j hj => Or.inl hj), ?_⟩
    rcases e5 with e | e
    · exact Or.inl e.symm
    · cases e; exact Or.inr rfl
/-- What Ask leaves. -/
abbrev AS (B T L : Nat) (v : Value) : Nat → Prop := fun k => k = B ∨ k = T ∨ k = L ∨ v.ownBlock = some k
set_option maxHeartbeats 2000000 in
theorem ask_done {kind fd port c f : Int} {s s' : Nat → Int} {l l' : List Vn} (hT : TurnC kind fd port s l c f true s' l') (k0 : 1 ≤ kind) (k1 : kind ≤ 9) {w : World} {B T L M : Nat} {v : Value} {tag now : Int} (h : AK w B T L M s v l) :
    Calls Tryz.prog 8 #[PB B, .agg (reqA tag kind fd port), .int .i64 now] w fun e w' => ∃ D cp v2, e = .returned (.tuple #[.slice (some ⟨D, 0, none⟩) 1 cp, .slice none 0 0]) ∧ w.heap.size ≤ D ∧ (∀ k, v2.ownBlock = some k → k ≠ D) ∧ At w' D #[.int .i64 tag, .int .i64 c, .int .i64 f, .int .i64 0, .string ⟨#[]⟩] ∧ AK w' B T L M s' v2 l' ∧ (v2.ownBlock = v.ownBlock ∨ ∀ k, v2.ownBlock = some k → w.heap.size ≤ k) ∧ Turn (AS B T L v) w w' := by
  have HT : Hid (TurnC kind fd port s l c f true s' l') := hT
  clear hT
  go_enter Tryz.func8, Tryz.ntmps8
  go_upto_region 1 with fail
  have q1 := bel1 w (.cells #[.int .i64 tag, .int .i64 kind, .int .i64 fd, .int .i64 0, .int .i64 port, .int .i64 0, .string ⟨#[]⟩] 41)
  have hQ := At.box w #[.int .i64 tag, .int .i64 kind, .int .i64 fd, .int .i64 0, .int .i64 port, .int .i64 0, .string ⟨#[]⟩] 41
  have hvl := fun k hk => (World.ownsRow.lt h.wr k hk).2
  have hlt := h.sk.lt
  have hap := h.ap
  have n1 := h.sk.n1
  have n2 := h.sk.n2
  have n3 := h.sk.n3
  have hs := h.sk.later q1
  have hw := row_later h.wr q1
  have ht := Turn.of_below (S := AS B T L v) q1
  clear h q1
  generalize w.alloc (.cells #[.int .i64 tag, .int .i64 kind, .int .i64 fd, .int .i64 0, .int .i64 port, .int .i64 0, .string ⟨#[]⟩] 41) = x1 at *
  obtain ⟨Q, hQe⟩ : ∃ x, x = w.heap.size := ⟨_, rfl⟩
  rw [← hQe] at hQ hlt hvl ⊢
  have hQle : w.heap.size ≤ Q := by omega
  clear hQe
  obtain ⟨ck0, ck1, -⟩ := hQ.seven
  have cB := hs.b.cv
  obtain ⟨va, vc, hv⟩ : ∃ a c, v = .slice a 0 c := by
    rcases hw.2 with ⟨e, -⟩ | ⟨g, cap, cur, e, -⟩
    · exact ⟨none, 0, e⟩
    · exact ⟨some ⟨g, 0, none⟩, cap, e⟩
  subst hv
  go_upto_region 5 with fail
  clear ck0 ck1 cB
  -- the worlds of the region
  have hdr : Below x1.heap.size x1 x1.drew := (Below.refl _ _).drew
  have hQ := hQ.later hdr
  have hs := hs.later hdr
  have hw := row_later hw hdr
  have ht := ht.later hdr
  have hxs : x1.drew.heap.size = x1.heap.size := rfl
  clear hdr
  obtain ⟨W, hWe⟩ : ∃ x, x = x1.heap.size := ⟨_, rfl⟩
  have p1 := bel1 x1.drew (.cells (waitV tag kind fd port) 60)
  have hW1 := At.box x1.drew (waitV tag kind fd port) 60
  have p2 := bel1 (x1.drew.alloc (.cells (waitV tag kind fd port) 60)) (.cells #[PB x1.heap.size] 56)
  have hX1 := At.box (x1.drew.alloc (.cells (waitV tag kind fd port) 60)) #[PB x1.heap.size] 56
  have hXs : (x1.drew.alloc (.cells (waitV tag kind fd port) 60)).heap.size = x1.heap.size + 1 := World.size_alloc _ _
  rw [hxs] at hW1
  rw [hXs] at hX1
  have p12 := bt p1 p2
  obtain ⟨g, cap, y3, hrun, hr3, ht3, hg3⟩ := app_wait (row_later hw p12) hX1 rfl 52
  have hys : ((x1.drew.alloc (.cells (waitV tag kind fd port) 60)).alloc (.cells #[PB x1.heap.size] 56)).heap.size = x1.heap.size + 2 := by rw [World.size_alloc, hXs]
  have hgw : g = x1.heap.size + 2 ∨ (Value.slice va 0 vc).ownBlock = some g := by rcases hg3 with e | e; exact Or.inr e; exact Or.inl (by omega)
  have hWl : x1.heap.size > Q := by have := hQ.1; omega
  have hB : x1.heap.size ≠ B ∧ x1.heap.size ≠ T ∧ x1.heap.size ≠ L := by omega
  have hgg : g ≠ B ∧ g ≠ T ∧ g ≠ L ∧ g ≠ M ∧ g ≠ x1.heap.size ∧ g ≠ Q := by
    rcases hgw with e | e
    · omega
    · have a := hap g e
      have b := hvl g e
      omega
  have hQd : ∀ k, (Value.slice va 0 vc).ownBlock = some k → k ≠ Q := fun k hk => by have := hvl k hk; omega
  have Q1 := hQ.later p1
  have Q2 := hQ.later p12
  have Q3 := Q2.turn ht3 (fun e => hQd Q e rfl)
  have cB0 : x1.cell? ⟨B, 65, none⟩ = some (.slice va 0 vc) := hs.b.cv
  have cB1 : (x1.alloc (.cells (waitV tag kind fd port) 60)).cell? ⟨B, 65, none⟩ = some (.slice va 0 vc) := (hs.later p1).b.cv
  have cB2 : ((x1.alloc (.cells (waitV tag kind fd port) 60)).alloc (.cells #[PB x1.heap.size] 56)).cell? ⟨B, 65, none⟩ = some (.slice va 0 vc) := (hs.later p12).b.cv
  have s3 := (hs.later p12).turn ht3 (fun e => (hap B e).1 rfl) (fun e => (hap T e).2.1 rfl) (fun e => (hap L e).2.2.1 rfl) (fun e => (hap M e).2.2.2 rfl)
  have W3 := (hW1.later p2).turn ht3 (fun e => by have := hvl _ e; omega)
  have t3 := (ht.later p12).trans (ht3.mono fun k e => Or.inr (Or.inr (Or.inr e)))
  have ts := turn_set y3 B 65 (.slice (some ⟨g, 0, none⟩) 1 cap)
  have cB3 := s3.b.cv
  have fB3 := s3.b.fv
  have Q4 := Q3.turn ts (by omega)
  have s4 : SK (y3.setCell ⟨B, 65, none⟩ (.slice (some ⟨g, 0, none⟩) 1 cap)) B T L M s (.slice (some ⟨g, 0, none⟩) 1 cap) l := ⟨s3.b.setV _, s3.t.turn ts (fun e => n1 e.symm) (fun e => n2 e.symm) (fun e => n3 e.symm), n1, n2, n3⟩
  have W4 := W3.turn ts hB.1
  have r4 := row_turn hr3 ts (by rintro k hk; cases hk; exact hgg.1)
  have t4 := t3.trans (ts.mono fun k e => Or.inl e)
  have hAns := answer_any HT.out (now := now) s4 r4 W4 hB.1 hB.2.1 hB.2.2 hgg.1 hgg.2.1 hgg.2.2.1 hgg.2.2.2.1 hgg.2.2.2.2.1
  have HANS : Hid _ := hAns
  have hV2 : (Value.slice (some ⟨g, 0, none⟩) 0 cap).ownBlock = (Value.slice va 0 vc).ownBlock ∨ ∀ k, (Value.slice (some ⟨g, 0, none⟩) 0 cap).ownBlock = some k → w.heap.size ≤ k := by
    rcases hgw with e | e
    · right
      intro k hk
      have hk' : g = k := Option.some.inj hk
      omega
    · left
      rw [e]
      rfl
  have HV2 : Hid _ := hV2
  have hTT : ∀ w', Turn (fun k => k = B ∨ k = T ∨ k = L ∨ k = g) (y3.setCell ⟨B, 65, none⟩ (.slice (some ⟨g, 0, none⟩) 1 cap)) w' → Turn (AS B T L (.slice va 0 vc)) w w' := fun w' k => t4.step k fun j e => by
    rcases e with e | e | e | e
    · exact Or.inl (Or.inl e)
    · exact Or.inl (Or.inr (Or.inl e))
    · exact Or.inl (Or.inr (Or.inr (Or.inl e)))
    · rcases hgw with e' | e'
      · exact Or.inr (by omega)
      · exact Or.inl (Or.inr (Or.inr (Or.inr (by rw [e]; exact e'))))
  have HTT : Hid _ := hTT
  have HSZ : Hid (w.heap.size ≤ (y3.setCell ⟨B, 65, none⟩ (.slice (some ⟨g, 0, none⟩) 1 cap)).heap.size) := t4.size
  clear hTT hV2
  clear hAns s4 r4 W4 t4 t3 s3 W3 ts hW1 hX1 hg3 hgw hB hr3 ht hs hw hxs hvl hap hgg hQd ht3 HT
  refine wp_region_held_drew (S := (fun X => At X Q #[.int .i64 tag, .int .i64 kind, .int .i64 fd, .int .i64 0, .int .i64 port, .int .i64 0, .string ⟨#[]⟩])) (by kernel_rfl) ?_ (fun hHeld => ?_)
  · first | exact hQ | assumption
  refine wpAnyH_take (i := 0) (oi := ({ dst := some 30, op := Go.Op.move (Go.Operand.tmp 0), type := 23, pos := "sock.go:48", after := #[], guard := none } : Go.Oper)) (v := PB B) rfl (by kernel_rfl) (by kernel_rfl) (by kernel_rfl) (fun _ _ _ h => h) (Or.inl ⟨by rfl, ?_⟩) (by assumption) ?_
  · intro wx hSw
    try dsimp only at hSw
    obtain ⟨u0, u1, u2, u3, u4, u5, u6⟩ := At.seven hSw
    go_simp
    try with_reducible rfl
  try simp only [Act.put, List.setIfInBounds_toArray, List.set_cons_zero, List.set_cons_succ]
  refine wpAnyH_take (i := 1) (oi := ({ dst := some 31, op := Go.Op.move (Go.Operand.tmp 0), type := 23, pos := "sock.go:48", after := #[], guard := none } : Go.Oper)) (v := PB B) rfl (by kernel_rfl) (by kernel_rfl) (by kernel_rfl) (fun _ _ _ h => h) (Or.inl ⟨by rfl, ?_⟩) (by assumption) ?_
  · intro wx hSw
    try dsimp only at hSw
    obtain ⟨u0, u1, u2, u3, u4, u5, u6⟩ := At.seven hSw
    go_simp
    try with_reducible rfl
  try simp only [Act.put, List.setIfInBounds_toArray, List.set_cons_zero, List.set_cons_succ]
  refine wpAnyH_take (i := 2) (oi := ({ dst := some 32, op := Go.Op.nilCheck (Go.Operand.tmp 31), type := 0, pos := "sock.go:48", after := #[{ on := 1, ground := Go.Ground.data }], guard := none } : Go.Oper)) (v := PB B) rfl (by kernel_rfl) (by kernel_rfl) (by kernel_rfl) (fun _ _ _ h => h) (Or.inl ⟨by rfl, ?_⟩) (by assumption) ?_
  · intro wx hSw
    try dsimp only at hSw
    obtain ⟨u0, u1, u2, u3, u4, u5, u6⟩ := At.seven hSw
    go_simp
    try with_reducible rfl
  try simp only [Act.put, List.setIfInBounds_toArray, List.set_cons_zero, List.set_cons_succ]
  refine wpAnyH_take (i := 3) (oi := ({ dst := some 33, op := Go.Op.fieldAddr 54 (Go.Operand.tmp 32) 2, type := 0, pos := "sock.go:48", after := #[{ on := 2, ground := Go.Ground.data }], guard := none } : Go.Oper)) (v := .pointer (some ⟨B, 65, none⟩)) rfl (by kernel_rfl) (by kernel_rfl) (by kernel_rfl) (fun _ _ _ h => h) (Or.inl ⟨by rfl, ?_⟩) (by assumption) ?_
  · intro wx hSw
    try dsimp only at hSw
    obtain ⟨u0, u1, u2, u3, u4, u5, u6⟩ := At.seven hSw
    go_simp
    try with_reducible rfl
  try simp only [Act.put, List.setIfInBounds_toArray, List.set_cons_zero, List.set_cons_succ]
  refine wpAnyH_take (i := 5) (oi := ({ dst := some 35, op := Go.Op.load 41 (Go.Operand.tmp 4), type := 41, pos := "sock.go:48", after := #[], guard := none } : Go.Oper)) (v := .agg #[.int .i64 tag, .int .i64 kind, .int .i64 fd, .int .i64 0, .int .i64 port, .int .i64 0, .string ⟨#[]⟩]) rfl (by kernel_rfl) (by kernel_rfl) (by kernel_rfl) (fun _ _ _ h => h) (Or.inl ⟨by rfl, ?_⟩) (by assumption) ?_
  · intro wx hSw
    try dsimp only at hSw
    obtain ⟨u0, u1, u2, u3, u4, u5, u6⟩ := At.seven hSw
    go_simp
    try with_reducible rfl
  try simp only [Act.put, List.setIfInBounds_toArray, List.set_cons_zero, List.set_cons_succ]
  refine wpAnyH_take (i := 6) (oi := ({ dst := some 36, op := Go.Op.build 60 #[(0, Go.Operand.tmp 35)], type := 60, pos := "sock.go:48", after := #[{ on := 5, ground := Go.Ground.data }], guard := none } : Go.Oper)) (v := .agg (waitV tag kind fd port)) rfl (by kernel_rfl) (by kernel_rfl) (by kernel_rfl) (fun _ _ _ h => h) (Or.inl ⟨by rfl, ?_⟩) (by assumption) ?_
  · intro wx hSw
    try dsimp only at hSw
    obtain ⟨u0, u1, u2, u3, u4, u5, u6⟩ := At.seven hSw
    go_simp
    try with_reducible rfl
  try simp only [Act.put, List.setIfInBounds_toArray, List.set_cons_zero, List.set_cons_succ]
  refine wpAnyH_ready (rs := [4, 7]) (by kernel_rfl) (by simp) ?_
  refine AllReadyH.cons (o := ({ dst := some 34, op := Go.Op.load 52 (Go.Operand.tmp 33), type := 52, pos := "sock.go:48", after := #[{ on := 3, ground := Go.Ground.data }], guard := none } : Go.Oper)) rfl (fun K hK => ?_) (AllReadyH.cons (o := ({ dst := some 37, op := Go.Op.box 60 (Go.Operand.tmp 36), type := 56, pos := "sock.go:48", after := #[{ on := 6, ground := Go.Ground.data }], guard := none } : Go.Oper)) rfl (fun K hK => ?_) AllReadyH.nil)
  · go_simp
    refine hK.out _ _ hHeld (fun hHeld => ?_)
    clear hK K
    try simp only [Act.put, List.setIfInBounds_toArray, List.set_cons_zero, List.set_cons_succ]
    refine wpAnyH_ready (rs := [7]) (by kernel_rfl) (by simp) ?_
    refine AllReadyH.cons (o := ({ dst := some 37, op := Go.Op.box 60 (Go.Operand.tmp 36), type := 56, pos := "sock.go:48", after := #[{ on := 6, ground := Go.Ground.data }], guard := none } : Go.Oper)) rfl (fun K hK => ?_) AllReadyH.nil
    · go_simp
      refine hK.out _ _ Q1 (fun hHeld => ?_)
      clear hK K
      try simp only [Act.put, List.setIfInBounds_toArray, List.set_cons_zero, List.set_cons_succ]
      refine wpAnyH_ready (rs := [8]) (by kernel_rfl) (by simp) ?_
      refine AllReadyH.cons (o := ({ dst := some 38, op := Go.Op.buildSlice 52 1 #[(0, Go.Operand.tmp 37)], type := 52, pos := "sock.go:48", after := #[{ on := 7, ground := Go.Ground.data }], guard := none } : Go.Oper)) rfl (fun K hK => ?_) AllReadyH.nil
      · go_simp
        refine hK.out _ _ Q2 (fun hHeld => ?_)
        clear hK K
        try simp only [Act.put, List.setIfInBounds_toArray, List.set_cons_zero, List.set_cons_succ]
        refine wpAnyH_ready (rs := [9]) (by kernel_rfl) (by simp) ?_
        refine AllReadyH.cons (o := ({ dst := some 39, op := Go.Op.call { callee := Go.Callee.builtin Go.Builtin.append, args := #[Go.Operand.tmp 34, Go.Operand.tmp 38], argTypes := #[52, 52] }, type := 52, pos := "sock.go:48", after := #[{ on := 4, ground := Go.Ground.data }, { on := 8, ground := Go.Ground.data }], guard := none } : Go.Oper)) rfl (fun K hK => ?_) AllReadyH.nil
        · refine step_append_str (by rfl) _ _ (by rfl) (by rfl) (by rfl) hrun ?_
          refine hK.out _ _ Q3 (fun hHeld => ?_)
          clear hK K
          try simp only [Act.put, List.setIfInBounds_toArray, List.set_cons_zero, List.set_cons_succ]
          refine wpAnyH_take (i := 10) (oi := ({ dst := some 40, op := Go.Op.nilCheck (Go.Operand.tmp 30), type := 0, pos := "sock.go:48", after := #[{ on := 0, ground := Go.Ground.data }, { on := 0, ground := Go.Ground.phase }, { on := 1, ground := Go.Ground.phase }, { on := 2, ground := Go.Ground.phase }, { on := 3, ground := Go.Ground.phase }, { on := 4, ground := Go.Ground.phase }, { on := 5, ground := Go.Ground.phase }, { on := 6, ground := Go.Ground.phase }, { on := 7, ground := Go.Ground.phase }, { on := 8, ground := Go.Ground.phase }, { on := 9, ground := Go.Ground.phase }], guard := none } : Go.Oper)) (v := PB B) rfl (by kernel_rfl) (by kernel_rfl) (by kernel_rfl) (fun _ _ _ h => h) (Or.inl ⟨by rfl, ?_⟩) (by assumption) ?_
          · intro wx hSw
            try dsimp only at hSw
            obtain ⟨u0, u1, u2, u3, u4, u5, u6⟩ := At.seven hSw
            go_simp
            try with_reducible rfl
          try simp only [Act.put, List.setIfInBounds_toArray, List.set_cons_zero, List.set_cons_succ]
          refine wpAnyH_take (i := 11) (oi := ({ dst := some 41, op := Go.Op.fieldAddr 54 (Go.Operand.tmp 40) 2, type := 0, pos := "sock.go:48", after := #[{ on := 10, ground := Go.Ground.data }, { on := 0, ground := Go.Ground.phase }, { on := 1, ground := Go.Ground.phase }, { on := 2, ground := Go.Ground.phase }, { on := 3, ground := Go.Ground.phase }, { on := 4, ground := Go.Ground.phase }, { on := 5, ground := Go.Ground.phase }, { on := 6, ground := Go.Ground.phase }, { on := 7, ground := Go.Ground.phase }, { on := 8, ground := Go.Ground.phase }, { on := 9, ground := Go.Ground.phase }], guard := none } : Go.Oper)) (v := .pointer (some ⟨B, 65, none⟩)) rfl (by kernel_rfl) (by kernel_rfl) (by kernel_rfl) (fun _ _ _ h => h) (Or.inl ⟨by rfl, ?_⟩) (by assumption) ?_
          · intro wx hSw
            try dsimp only at hSw
            obtain ⟨u0, u1, u2, u3, u4, u5, u6⟩ := At.seven hSw
            go_simp
            try with_reducible rfl
          try simp only [Act.put, List.setIfInBounds_toArray, List.set_cons_zero, List.set_cons_succ]
          refine wpAnyH_ready (rs := [12]) (by kernel_rfl) (by simp) ?_
          refine AllReadyH.cons (o := ({ dst := none, op := Go.Op.store 52 (Go.Operand.tmp 41) (Go.Operand.tmp 39), type := 0, pos := "sock.go:48", after := #[{ on := 11, ground := Go.Ground.data }, { on := 9, ground := Go.Ground.data }, { on := 9, ground := Go.Ground.chain }, { on := 0, ground := Go.Ground.phase }, { on := 1, ground := Go.Ground.phase }, { on := 2, ground := Go.Ground.phase }, { on := 3, ground := Go.Ground.phase }, { on := 4, ground := Go.Ground.phase }, { on := 5, ground := Go.Ground.phase }, { on := 6, ground := Go.Ground.phase }, { on := 7, ground := Go.Ground.phase }, { on := 8, ground := Go.Ground.phase }, { on := 9, ground := Go.Ground.phase }], guard := none } : Go.Oper)) rfl (fun K hK => ?_) AllReadyH.nil
          · go_simp
            refine hK.out _ _ Q4 (fun hHeld => ?_)
            clear hK K
            try simp only [Act.put, List.setIfInBounds_toArray, List.set_cons_zero, List.set_cons_succ]
            refine wpAnyH_done (by kernel_rfl) ?_ _
            go_wp2_with fail
            refine Calls.mono HANS.out ?_
            rintro e w' ⟨D, cp, rfl, hD, hA, ht, hd1, hd2⟩
            go_wp2
            go_ret2
            exact ⟨D, cp, _, rfl, Nat.le_trans HSZ.out hd1, fun k hk => by cases hk; exact hd2, hD, hA, HV2.out, HTT.out _ ht⟩
  · go_simp
    refine hK.out _ _ Q1 (fun hHeld => ?_)
    clear hK K
    try simp only [Act.put, List.setIfInBounds_toArray, List.set_cons_zero, List.set_cons_succ]
    refine wpAnyH_ready (rs := [4, 8]) (by kernel_rfl) (by simp) ?_
    refine AllReadyH.cons (o := ({ dst := some 34, op := Go.Op.load 52 (Go.Operand.tmp 33), type := 52, pos := "sock.go:48", after := #[{ on := 3, ground := Go.Ground.data }], guard := none } : Go.Oper)) rfl (fun K hK => ?_) (AllReadyH.cons (o := ({ dst := some 38, op := Go.Op.buildSlice 52 1 #[(0, Go.Operand.tmp 37)], type := 52, pos := "sock.go:48", after := #[{ on := 7, ground := Go.Ground.data }], guard := none } : Go.Oper)) rfl (fun K hK => ?_) AllReadyH.nil)
    · go_simp
      refine hK.out _ _ hHeld (fun hHeld => ?_)
      clear hK K
      try simp only [Act.put, List.setIfInBounds_toArray, List.set_cons_zero, List.set_cons_succ]
      refine wpAnyH_ready (rs := [8]) (by kernel_rfl) (by simp) ?_
      refine AllReadyH.cons (o := ({ dst := some 38, op := Go.Op.buildSlice 52 1 #[(0, Go.Operand.tmp 37)], type := 52, pos := "sock.go:48", after := #[{ on := 7, ground := Go.Ground.data }], guard := none } : Go.Oper)) rfl (fun K hK => ?_) AllReadyH.nil
      · go_simp
        refine hK.out _ _ Q2 (fun hHeld => ?_)
        clear hK K
        try simp only [Act.put, List.setIfInBounds_toArray, List.set_cons_zero, List.set_cons_succ]
        refine wpAnyH_ready (rs := [9]) (by kernel_rfl) (by simp) ?_
        refine AllReadyH.cons (o := ({ dst := some 39, op := Go.Op.call { callee := Go.Callee.builtin Go.Builtin.append, args := #[Go.Operand.tmp 34, Go.Operand.tmp 38], argTypes := #[52, 52] }, type := 52, pos := "sock.go:48", after := #[{ on := 4, ground := Go.Ground.data }, { on := 8, ground := Go.Ground.data }], guard := none } : Go.Oper)) rfl (fun K hK => ?_) AllReadyH.nil
        · refine step_append_str (by rfl) _ _ (by rfl) (by rfl) (by rfl) hrun ?_
          refine hK.out _ _ Q3 (fun hHeld => ?_)
          clear hK K
          try simp only [Act.put, List.setIfInBounds_toArray, List.set_cons_zero, List.set_cons_succ]
          refine wpAnyH_take (i := 10) (oi := ({ dst := some 40, op := Go.Op.nilCheck (Go.Operand.tmp 30), type := 0, pos := "sock.go:48", after := #[{ on := 0, ground := Go.Ground.data }, { on := 0, ground := Go.Ground.phase }, { on := 1, ground := Go.Ground.phase }, { on := 2, ground := Go.Ground.phase }, { on := 3, ground := Go.Ground.phase }, { on := 4, ground := Go.Ground.phase }, { on := 5, ground := Go.Ground.phase }, { on := 6, ground := Go.Ground.phase }, { on := 7, ground := Go.Ground.phase }, { on := 8, ground := Go.Ground.phase }, { on := 9, ground := Go.Ground.phase }], guard := none } : Go.Oper)) (v := PB B) rfl (by kernel_rfl) (by kernel_rfl) (by kernel_rfl) (fun _ _ _ h => h) (Or.inl ⟨by rfl, ?_⟩) (by assumption) ?_
          · intro wx hSw
            try dsimp only at hSw
            obtain ⟨u0, u1, u2, u3, u4, u5, u6⟩ := At.seven hSw
            go_simp
            try with_reducible rfl
          try simp only [Act.put, List.setIfInBounds_toArray, List.set_cons_zero, List.set_cons_succ]
          refine wpAnyH_take (i := 11) (oi := ({ dst := some 41, op := Go.Op.fieldAddr 54 (Go.Operand.tmp 40) 2, type := 0, pos := "sock.go:48", after := #[{ on := 10, ground := Go.Ground.data }, { on := 0, ground := Go.Ground.phase }, { on := 1, ground := Go.Ground.phase }, { on := 2, ground := Go.Ground.phase }, { on := 3, ground := Go.Ground.phase }, { on := 4, ground := Go.Ground.phase }, { on := 5, ground := Go.Ground.phase }, { on := 6, ground := Go.Ground.phase }, { on := 7, ground := Go.Ground.phase }, { on := 8, ground := Go.Ground.phase }, { on := 9, ground := Go.Ground.phase }], guard := none } : Go.Oper)) (v := .pointer (some ⟨B, 65, none⟩)) rfl (by kernel_rfl) (by kernel_rfl) (by kernel_rfl) (fun _ _ _ h => h) (Or.inl ⟨by rfl, ?_⟩) (by assumption) ?_
          · intro wx hSw
            try dsimp only at hSw
            obtain ⟨u0, u1, u2, u3, u4, u5, u6⟩ := At.seven hSw
            go_simp
            try with_reducible rfl
          try simp only [Act.put, List.setIfInBounds_toArray, List.set_cons_zero, List.set_cons_succ]
          refine wpAnyH_ready (rs := [12]) (by kernel_rfl) (by simp) ?_
          refine AllReadyH.cons (o := ({ dst := none, op := Go.Op.store 52 (Go.Operand.tmp 41) (Go.Operand.tmp 39), type := 0, pos := "sock.go:48", after := #[{ on := 11, ground := Go.Ground.data }, { on := 9, ground := Go.Ground.data }, { on := 9, ground := Go.Ground.chain }, { on := 0, ground := Go.Ground.phase }, { on := 1, ground := Go.Ground.phase }, { on := 2, ground := Go.Ground.phase }, { on := 3, ground := Go.Ground.phase }, { on := 4, ground := Go.Ground.phase }, { on := 5, ground := Go.Ground.phase }, { on := 6, ground := Go.Ground.phase }, { on := 7, ground := Go.Ground.phase }, { on := 8, ground := Go.Ground.phase }, { on := 9, ground := Go.Ground.phase }], guard := none } : Go.Oper)) rfl (fun K hK => ?_) AllReadyH.nil
          · go_simp
            refine hK.out _ _ Q4 (fun hHeld => ?_)
            clear hK K
            try simp only [Act.put, List.setIfInBounds_toArray, List.set_cons_zero, List.set_cons_succ]
            refine wpAnyH_done (by kernel_rfl) ?_ _
            go_wp2_with fail
            refine Calls.mono HANS.out ?_
            rintro e w' ⟨D, cp, rfl, hD, hA, ht, hd1, hd2⟩
            go_wp2
            go_ret2
            exact ⟨D, cp, _, rfl, Nat.le_trans HSZ.out hd1, fun k hk => by cases hk; exact hd2, hD, hA, HV2.out, HTT.out _ ht⟩
    · go_simp
      refine hK.out _ _ Q2 (fun hHeld => ?_)
      clear hK K
      try simp only [Act.put, List.setIfInBounds_toArray, List.set_cons_zero, List.set_cons_succ]
      refine wpAnyH_ready (rs := [4]) (by kernel_rfl) (by simp) ?_
      refine AllReadyH.cons (o := ({ dst := some 34, op := Go.Op.load 52 (Go.Operand.tmp 33), type := 52, pos := "sock.go:48", after := #[{ on := 3, ground := Go.Ground.data }], guard := none } : Go.Oper)) rfl (fun K hK => ?_) AllReadyH.nil
      · go_simp
        refine hK.out _ _ hHeld (fun hHeld => ?_)
        clear hK K
        try simp only [Act.put, List.setIfInBounds_toArray, List.set_cons_zero, List.set_cons_succ]
        refine wpAnyH_ready (rs := [9]) (by kernel_rfl) (by simp) ?_
        refine AllReadyH.cons (o := ({ dst := some 39, op := Go.Op.call { callee := Go.Callee.builtin Go.Builtin.append, args := #[Go.Operand.tmp 34, Go.Operand.tmp 38], argTypes := #[52, 52] }, type := 52, pos := "sock.go:48", after := #[{ on := 4, ground := Go.Ground.data }, { on := 8, ground := Go.Ground.data }], guard := none } : Go.Oper)) rfl (fun K hK => ?_) AllReadyH.nil
        · refine step_append_str (by rfl) _ _ (by rfl) (by rfl) (by rfl) hrun ?_
          refine hK.out _ _ Q3 (fun hHeld => ?_)
          clear hK K
          try simp only [Act.put, List.setIfInBounds_toArray, List.set_cons_zero, List.set_cons_succ]
          refine wpAnyH_take (i := 10) (oi := ({ dst := some 40, op := Go.Op.nilCheck (Go.Operand.tmp 30), type := 0, pos := "sock.go:48", after := #[{ on := 0, ground := Go.Ground.data }, { on := 0, ground := Go.Ground.phase }, { on := 1, ground := Go.Ground.phase }, { on := 2, ground := Go.Ground.phase }, { on := 3, ground := Go.Ground.phase }, { on := 4, ground := Go.Ground.phase }, { on := 5, ground := Go.Ground.phase }, { on := 6, ground := Go.Ground.phase }, { on := 7, ground := Go.Ground.phase }, { on := 8, ground := Go.Ground.phase }, { on := 9, ground := Go.Ground.phase }], guard := none } : Go.Oper)) (v := PB B) rfl (by kernel_rfl) (by kernel_rfl) (by kernel_rfl) (fun _ _ _ h => h) (Or.inl ⟨by rfl, ?_⟩) (by assumption) ?_
          · intro wx hSw
            try dsimp only at hSw
            obtain ⟨u0, u1, u2, u3, u4, u5, u6⟩ := At.seven hSw
            go_simp
            try with_reducible rfl
          try simp only [Act.put, List.setIfInBounds_toArray, List.set_cons_zero, List.set_cons_succ]
          refine wpAnyH_take (i := 11) (oi := ({ dst := some 41, op := Go.Op.fieldAddr 54 (Go.Operand.tmp 40) 2, type := 0, pos := "sock.go:48", after := #[{ on := 10, ground := Go.Ground.data }, { on := 0, ground := Go.Ground.phase }, { on := 1, ground := Go.Ground.phase }, { on := 2, ground := Go.Ground.phase }, { on := 3, ground := Go.Ground.phase }, { on := 4, ground := Go.Ground.phase }, { on := 5, ground := Go.Ground.phase }, { on := 6, ground := Go.Ground.phase }, { on := 7, ground := Go.Ground.phase }, { on := 8, ground := Go.Ground.phase }, { on := 9, ground := Go.Ground.phase }], guard := none } : Go.Oper)) (v := .pointer (some ⟨B, 65, none⟩)) rfl (by kernel_rfl) (by kernel_rfl) (by kernel_rfl) (fun _ _ _ h => h) (Or.inl ⟨by rfl, ?_⟩) (by assumption) ?_
          · intro wx hSw
            try dsimp only at hSw
            obtain ⟨u0, u1, u2, u3, u4, u5, u6⟩ := At.seven hSw
            go_simp
            try with_reducible rfl
          try simp only [Act.put, List.setIfInBounds_toArray, List.set_cons_zero, List.set_cons_succ]
          refine wpAnyH_ready (rs := [12]) (by kernel_rfl) (by simp) ?_
          refine AllReadyH.cons (o := ({ dst := none, op := Go.Op.store 52 (Go.Operand.tmp 41) (Go.Operand.tmp 39), type := 0, pos := "sock.go:48", after := #[{ on := 11, ground := Go.Ground.data }, { on := 9, ground := Go.Ground.data }, { on := 9, ground := Go.Ground.chain }, { on := 0, ground := Go.Ground.phase }, { on := 1, ground := Go.Ground.phase }, { on := 2, ground := Go.Ground.phase }, { on := 3, ground := Go.Ground.phase }, { on := 4, ground := Go.Ground.phase }, { on := 5, ground := Go.Ground.phase }, { on := 6, ground := Go.Ground.phase }, { on := 7, ground := Go.Ground.phase }, { on := 8, ground := Go.Ground.phase }, { on := 9, ground := Go.Ground.phase }], guard := none } : Go.Oper)) rfl (fun K hK => ?_) AllReadyH.nil
          · go_simp
            refine hK.out _ _ Q4 (fun hHeld => ?_)
            clear hK K
            try simp only [Act.put, List.setIfInBounds_toArray, List.set_cons_zero, List.set_cons_succ]
            refine wpAnyH_done (by kernel_rfl) ?_ _
            go_wp2_with fail
            refine Calls.mono HANS.out ?_
            rintro e w' ⟨D, cp, rfl, hD, hA, ht, hd1, hd2⟩
            go_wp2
            go_ret2
            exact ⟨D, cp, _, rfl, Nat.le_trans HSZ.out hd1, fun k hk => by cases hk; exact hd2, hD, hA, HV2.out, HTT.out _ ht⟩
set_option maxHeartbeats 2000000 in
theorem ask_wait {kind fd port c f : Int} {s s' : Nat → Int} {l l' : List Vn} (hT : TurnC kind fd port s l c f false s' l') (k0 : 1 ≤ kind) (k1 : kind ≤ 9) {w : World} {B T L M : Nat} {v : Value} {tag now : Int} (h : AK w B T L M s v l) :
    Calls Tryz.prog 8 #[PB B, .agg (reqA tag kind fd port), .int .i64 now] w fun e w' => ∃ g cap W, e = .returned (.tuple #[.slice none 0 0, .slice none 0 0]) ∧ WR w' (.slice (some ⟨g, 0, none⟩) 1 cap) [PB W] ∧ At w' W (waitV tag kind fd port) ∧ SK w' B T L M s' (.slice (some ⟨g, 0, none⟩) 1 cap) l' ∧ Turn (AS B T L v) w w' := by
  have HT : Hid (TurnC kind fd port s l c f false s' l') := hT
  clear hT
  go_enter Tryz.func8, Tryz.ntmps8
  go_upto_region 1 with fail
  have q1 := bel1 w (.cells #[.int .i64 tag, .int .i64 kind, .int .i64 fd, .int .i64 0, .int .i64 port, .int .i64 0, .string ⟨#[]⟩] 41)
  have hQ := At.box w #[.int .i64 tag, .int .i64 kind, .int .i64 fd, .int .i64 0, .int .i64 port, .int .i64 0, .string ⟨#[]⟩] 41
  have hvl := fun k hk => (World.ownsRow.lt h.wr k hk).2
  have hlt := h.sk.lt
  have hap := h.ap
  have n1 := h.sk.n1
  have n2 := h.sk.n2
  have n3 := h.sk.n3
  have hs := h.sk.later q1
  have hw := row_later h.wr q1
  have ht := Turn.of_below (S := AS B T L v) q1
  clear h q1
  generalize w.alloc (.cells #[.int .i64 tag, .int .i64 kind, .int .i64 fd, .int .i64 0, .int .i64 port, .int .i64 0, .string ⟨#[]⟩] 41) = x1 at *
  obtain ⟨Q, hQe⟩ : ∃ x, x = w.heap.size := ⟨_, rfl⟩
  rw [← hQe] at hQ hlt hvl ⊢
  have hQle : w.heap.size ≤ Q := by omega
  clear hQe
  obtain ⟨ck0, ck1, -⟩ := hQ.seven
  have cB := hs.b.cv
  obtain ⟨va, vc, hv⟩ : ∃ a c, v = .slice a 0 c := by
    rcases hw.2 with ⟨e, -⟩ | ⟨g, cap, cur, e, -⟩
    · exact ⟨none, 0, e⟩
    · exact ⟨some ⟨g, 0, none⟩, cap, e⟩
  subst hv
  go_upto_region 5 with fail
  clear ck0 ck1 cB
  -- the worlds of the region
  have hdr : Below x1.heap.size x1 x1.drew := (Below.refl _ _).drew
  have hQ := hQ.later hdr
  have hs := hs.later hdr
  have hw := row_later hw hdr
  have ht := ht.later hdr
  have hxs : x1.drew.heap.size = x1.heap.size := rfl
  clear hdr
  obtain ⟨W, hWe⟩ : ∃ x, x = x1.heap.size := ⟨_, rfl⟩
  have p1 := bel1 x1.drew (.cells (waitV tag kind fd port) 60)
  have hW1 := At.box x1.drew (waitV tag kind fd port) 60
  have p2 := bel1 (x1.drew.alloc (.cells (waitV tag kind fd port) 60)) (.cells #[PB x1.heap.size] 56)
  have hX1 := At.box (x1.drew.alloc (.cells (waitV tag kind fd port) 60)) #[PB x1.heap.size] 56
  have hXs : (x1.drew.alloc (.cells (waitV tag kind fd port) 60)).heap.size = x1.heap.size + 1 := World.size_alloc _ _
  rw [hxs] at hW1
  rw [hXs] at hX1
  have p12 := bt p1 p2
  obtain ⟨g, cap, y3, hrun, hr3, ht3, hg3⟩ := app_wait (row_later hw p12) hX1 rfl 52
  have hys : ((x1.drew.alloc (.cells (waitV tag kind fd port) 60)).alloc (.cells #[PB x1.heap.size] 56)).heap.size = x1.heap.size + 2 := by rw [World.size_alloc, hXs]
  have hgw : g = x1.heap.size + 2 ∨ (Value.slice va 0 vc).ownBlock = some g := by rcases hg3 with e | e; exact Or.inr e; exact Or.inl (by omega)
  have hWl : x1.heap.size > Q := by have := hQ.1; omega
  have hB : x1.heap.size ≠ B ∧ x1.heap.size ≠ T ∧ x1.heap.size ≠ L := by omega
  have hgg : g ≠ B ∧ g ≠ T ∧ g ≠ L ∧ g ≠ M ∧ g ≠ x1.heap.size ∧ g ≠ Q := by
    rcases hgw with e | e
    · omega
    · have a := hap g e
      have b := hvl g e
      omega
  have hQd : ∀ k, (Value.slice va 0 vc).ownBlock = some k → k ≠ Q := fun k hk => by have := hvl k hk; omega
  have Q1 := hQ.later p1
  have Q2 := hQ.later p12
  have Q3 := Q2.turn ht3 (fun e => hQd Q e rfl)
  have cB0 : x1.cell? ⟨B, 65, none⟩ = some (.slice va 0 vc) := hs.b.cv
  have cB1 : (x1.alloc (.cells (waitV tag kind fd port) 60)).cell? ⟨B, 65, none⟩ = some (.slice va 0 vc) := (hs.later p1).b.cv
  have cB2 : ((x1.alloc (.cells (waitV tag kind fd port) 60)).alloc (.cells #[PB x1.heap.size] 56)).cell? ⟨B, 65, none⟩ = some (.slice va 0 vc) := (hs.later p12).b.cv
  have s3 := (hs.later p12).turn ht3 (fun e => (hap B e).1 rfl) (fun e => (hap T e).2.1 rfl) (fun e => (hap L e).2.2.1 rfl) (fun e => (hap M e).2.2.2 rfl)
  have W3 := (hW1.later p2).turn ht3 (fun e => by have := hvl _ e; omega)
  have t3 := (ht.later p12).trans (ht3.mono fun k e => Or.inr (Or.inr (Or.inr e)))
  have ts := turn_set y3 B 65 (.slice (some ⟨g, 0, none⟩) 1 cap)
  have cB3 := s3.b.cv
  have fB3 := s3.b.fv
  have Q4 := Q3.turn ts (by omega)
  have s4 : SK (y3.setCell ⟨B, 65, none⟩ (.slice (some ⟨g, 0, none⟩) 1 cap)) B T L M s (.slice (some ⟨g, 0, none⟩) 1 cap) l := ⟨s3.b.setV _, s3.t.turn ts (fun e => n1 e.symm) (fun e => n2 e.symm) (fun e => n3 e.symm), n1, n2, n3⟩
  have W4 := W3.turn ts hB.1
  have r4 := row_turn hr3 ts (by rintro k hk; cases hk; exact hgg.1)
  have t4 := t3.trans (ts.mono fun k e => Or.inl e)
  have hAns := answer_wait HT.out (now := now) s4 r4 W4 hB.1 hB.2.1 hB.2.2 hgg.1 hgg.2.1 hgg.2.2.1 hgg.2.2.2.1 hgg.2.2.2.2.1
  have HANS : Hid _ := hAns
  have hV2 : (Value.slice (some ⟨g, 0, none⟩) 0 cap).ownBlock = (Value.slice va 0 vc).ownBlock ∨ ∀ k, (Value.slice (some ⟨g, 0, none⟩) 0 cap).ownBlock = some k → w.heap.size ≤ k := by
    rcases hgw with e | e
    · right
      intro k hk
      have hk' : g = k := Option.some.inj hk
      omega
    · left
      rw [e]
      rfl
  have HV2 : Hid _ := hV2
  have hTT : ∀ w', Turn (fun k => k = B ∨ k = T ∨ k = L ∨ k = g) (y3.setCell ⟨B, 65, none⟩ (.slice (some ⟨g, 0, none⟩) 1 cap)) w' → Turn (AS B T L (.slice va 0 vc)) w w' := fun w' k => t4.step k fun j e => by
    rcases e with e | e | e | e
    · exact Or.inl (Or.inl e)
    · exact Or.inl (Or.inr (Or.inl e))
    · exact Or.inl (Or.inr (Or.inr (Or.inl e)))
    · rcases hgw with e' | e'
      · exact Or.inr (by omega)
      · exact Or.inl (Or.inr (Or.inr (Or.inr (by rw [e]; exact e'))))
  have HTT : Hid _ := hTT
  have HSZ : Hid (w.heap.size ≤ (y3.setCell ⟨B, 65, none⟩ (.slice (some ⟨g, 0, none⟩) 1 cap)).heap.size) := t4.size
  clear hTT hV2
  clear hAns s4 r4 W4 t4 t3 s3 W3 ts hW1 hX1 hg3 hgw hB hr3 ht hs hw hxs hvl hap hgg hQd ht3 HT
  refine wp_region_held_drew (S := (fun X => At X Q #[.int .i64 tag, .int .i64 kind, .int .i64 fd, .int .i64 0, .int .i64 port, .int .i64 0, .string ⟨#[]⟩])) (by kernel_rfl) ?_ (fun hHeld => ?_)
  · first | exact hQ | assumption
  refine wpAnyH_take (i := 0) (oi := ({ dst := some 30, op := Go.Op.move (Go.Operand.tmp 0), type := 23, pos := "sock.go:48", after := #[], guard := none } : Go.Oper)) (v := PB B) rfl (by kernel_rfl) (by kernel_rfl) (by kernel_rfl) (fun _ _ _ h => h) (Or.inl ⟨by rfl, ?_⟩) (by assumption) ?_
  · intro wx hSw
    try dsimp only at hSw
    obtain ⟨u0, u1, u2, u3, u4, u5, u6⟩ := At.seven hSw
    go_simp
    try with_reducible rfl
  try simp only [Act.put, List.setIfInBounds_toArray, List.set_cons_zero, List.set_cons_succ]
  refine wpAnyH_take (i := 1) (oi := ({ dst := some 31, op := Go.Op.move (Go.Operand.tmp 0), type := 23, pos := "sock.go:48", after := #[], guard := none } : Go.Oper)) (v := PB B) rfl (by kernel_rfl) (by kernel_rfl) (by kernel_rfl) (fun _ _ _ h => h) (Or.inl ⟨by rfl, ?_⟩) (by assumption) ?_
  · intro wx hSw
    try dsimp only at hSw
    obtain ⟨u0, u1, u2, u3, u4, u5, u6⟩ := At.seven hSw
    go_simp
    try with_reducible rfl
  try simp only [Act.put, List.setIfInBounds_toArray, List.set_cons_zero, List.set_cons_succ]
  refine wpAnyH_take (i := 2) (oi := ({ dst := some 32, op := Go.Op.nilCheck (Go.Operand.tmp 31), type := 0, pos := "sock.go:48", after := #[{ on := 1, ground := Go.Ground.data }], guard := none } : Go.Oper)) (v := PB B) rfl (by kernel_rfl) (by kernel_rfl) (by kernel_rfl) (fun _ _ _ h => h) (Or.inl ⟨by rfl, ?_⟩) (by assumption) ?_
  · intro wx hSw
    try dsimp only at hSw
    obtain ⟨u0, u1, u2, u3, u4, u5, u6⟩ := At.seven hSw
    go_simp
    try with_reducible rfl
  try simp only [Act.put, List.setIfInBounds_toArray, List.set_cons_zero, List.set_cons_succ]
  refine wpAnyH_take (i := 3) (oi := ({ dst := some 33, op := Go.Op.fieldAddr 54 (Go.Operand.tmp 32) 2, type := 0, pos := "sock.go:48", after := #[{ on := 2, ground := Go.Ground.data }], guard := none } : Go.Oper)) (v := .pointer (some ⟨B, 65, none⟩)) rfl (by kernel_rfl) (by kernel_rfl) (by kernel_rfl) (fun _ _ _ h => h) (Or.inl ⟨by rfl, ?_⟩) (by assumption) ?_
  · intro wx hSw
    try dsimp only at hSw
    obtain ⟨u0, u1, u2, u3, u4, u5, u6⟩ := At.seven hSw
    go_simp
    try with_reducible rfl
  try simp only [Act.put, List.setIfInBounds_toArray, List.set_cons_zero, List.set_cons_succ]
  refine wpAnyH_take (i := 5) (oi := ({ dst := some 35, op := Go.Op.load 41 (Go.Operand.tmp 4), type := 41, pos := "sock.go:48", after := #[], guard := none } : Go.Oper)) (v := .agg #[.int .i64 tag, .int .i64 kind, .int .i64 fd, .int .i64 0, .int .i64 port, .int .i64 0, .string ⟨#[]⟩]) rfl (by kernel_rfl) (by kernel_rfl) (by kernel_rfl) (fun _ _ _ h => h) (Or.inl ⟨by rfl, ?_⟩) (by assumption) ?_
  · intro wx hSw
    try dsimp only at hSw
    obtain ⟨u0, u1, u2, u3, u4, u5, u6⟩ := At.seven hSw
    go_simp
    try with_reducible rfl
  try simp only [Act.put, List.setIfInBounds_toArray, List.set_cons_zero, List.set_cons_succ]
  refine wpAnyH_take (i := 6) (oi := ({ dst := some 36, op := Go.Op.build 60 #[(0, Go.Operand.tmp 35)], type := 60, pos := "sock.go:48", after := #[{ on := 5, ground := Go.Ground.data }], guard := none } : Go.Oper)) (v := .agg (waitV tag kind fd port)) rfl (by kernel_rfl) (by kernel_rfl) (by kernel_rfl) (fun _ _ _ h => h) (Or.inl ⟨by rfl, ?_⟩) (by assumption) ?_
  · intro wx hSw
    try dsimp only at hSw
    obtain ⟨u0, u1, u2, u3, u4, u5, u6⟩ := At.seven hSw
    go_simp
    try with_reducible rfl
  try simp only [Act.put, List.setIfInBounds_toArray, List.set_cons_zero, List.set_cons_succ]
  refine wpAnyH_ready (rs := [4, 7]) (by kernel_rfl) (by simp) ?_
  refine AllReadyH.cons (o := ({ dst := some 34, op := Go.Op.load 52 (Go.Operand.tmp 33), type := 52, pos := "sock.go:48", after := #[{ on := 3, ground := Go.Ground.data }], guard := none } : Go.Oper)) rfl (fun K hK => ?_) (AllReadyH.cons (o := ({ dst := some 37, op := Go.Op.box 60 (Go.Operand.tmp 36), type := 56, pos := "sock.go:48", after := #[{ on := 6, ground := Go.Ground.data }], guard := none } : Go.Oper)) rfl (fun K hK => ?_) AllReadyH.nil)
  · go_simp
    refine hK.out _ _ hHeld (fun hHeld => ?_)
    clear hK K
    try simp only [Act.put, List.setIfInBounds_toArray, List.set_cons_zero, List.set_cons_succ]
    refine wpAnyH_ready (rs := [7]) (by kernel_rfl) (by simp) ?_
    refine AllReadyH.cons (o := ({ dst := some 37, op := Go.Op.box 60 (Go.Operand.tmp 36), type := 56, pos := "sock.go:48", after := #[{ on := 6, ground := Go.Ground.data }], guard := none } : Go.Oper)) rfl (fun K hK => ?_) AllReadyH.nil
    · go_simp
      refine hK.out _ _ Q1 (fun hHeld => ?_)
      clear hK K
      try simp only [Act.put, List.setIfInBounds_toArray, List.set_cons_zero, List.set_cons_succ]
      refine wpAnyH_ready (rs := [8]) (by kernel_rfl) (by simp) ?_
      refine AllReadyH.cons (o := ({ dst := some 38, op := Go.Op.buildSlice 52 1 #[(0, Go.Operand.tmp 37)], type := 52, pos := "sock.go:48", after := #[{ on := 7, ground := Go.Ground.data }], guard := none } : Go.Oper)) rfl (fun K hK => ?_) AllReadyH.nil
      · go_simp
        refine hK.out _ _ Q2 (fun hHeld => ?_)
        clear hK K
        try simp only [Act.put, List.setIfInBounds_toArray, List.set_cons_zero, List.set_cons_succ]
        refine wpAnyH_ready (rs := [9]) (by kernel_rfl) (by simp) ?_
        refine AllReadyH.cons (o := ({ dst := some 39, op := Go.Op.call { callee := Go.Callee.builtin Go.Builtin.append, args := #[Go.Operand.tmp 34, Go.Operand.tmp 38], argTypes := #[52, 52] }, type := 52, pos := "sock.go:48", after := #[{ on := 4, ground := Go.Ground.data }, { on := 8, ground := Go.Ground.data }], guard := none } : Go.Oper)) rfl (fun K hK => ?_) AllReadyH.nil
        · refine step_append_str (by rfl) _ _ (by rfl) (by rfl) (by rfl) hrun ?_
          refine hK.out _ _ Q3 (fun hHeld => ?_)
          clear hK K
          try simp only [Act.put, List.setIfInBounds_toArray, List.set_cons_zero, List.set_cons_succ]
          refine wpAnyH_take (i := 10) (oi := ({ dst := some 40, op := Go.Op.nilCheck (Go.Operand.tmp 30), type := 0, pos := "sock.go:48", after := #[{ on := 0, ground := Go.Ground.data }, { on := 0, ground := Go.Ground.phase }, { on := 1, ground := Go.Ground.phase }, { on := 2, ground := Go.Ground.phase }, { on := 3, ground := Go.Ground.phase }, { on := 4, ground := Go.Ground.phase }, { on := 5, ground := Go.Ground.phase }, { on := 6, ground := Go.Ground.phase }, { on := 7, ground := Go.Ground.phase }, { on := 8, ground := Go.Ground.phase }, { on := 9, ground := Go.Ground.phase }], guard := none } : Go.Oper)) (v := PB B) rfl (by kernel_rfl) (by kernel_rfl) (by kernel_rfl) (fun _ _ _ h => h) (Or.inl ⟨by rfl, ?_⟩) (by assumption) ?_
          · intro wx hSw
            try dsimp only at hSw
            obtain ⟨u0, u1, u2, u3, u4, u5, u6⟩ := At.seven hSw
            go_simp
            try with_reducible rfl
          try simp only [Act.put, List.setIfInBounds_toArray, List.set_cons_zero, List.set_cons_succ]
          refine wpAnyH_take (i := 11) (oi := ({ dst := some 41, op := Go.Op.fieldAddr 54 (Go.Operand.tmp 40) 2, type := 0, pos := "sock.go:48", after := #[{ on := 10, ground := Go.Ground.data }, { on := 0, ground := Go.Ground.phase }, { on := 1, ground := Go.Ground.phase }, { on := 2, ground := Go.Ground.phase }, { on := 3, ground := Go.Ground.phase }, { on := 4, ground := Go.Ground.phase }, { on := 5, ground := Go.Ground.phase }, { on := 6, ground := Go.Ground.phase }, { on := 7, ground := Go.Ground.phase }, { on := 8, ground := Go.Ground.phase }, { on := 9, ground := Go.Ground.phase }], guard := none } : Go.Oper)) (v := .pointer (some ⟨B, 65, none⟩)) rfl (by kernel_rfl) (by kernel_rfl) (by kernel_rfl) (fun _ _ _ h => h) (Or.inl ⟨by rfl, ?_⟩) (by assumption) ?_
          · intro wx hSw
            try dsimp only at hSw
            obtain ⟨u0, u1, u2, u3, u4, u5, u6⟩ := At.seven hSw
            go_simp
            try with_reducible rfl
          try simp only [Act.put, List.setIfInBounds_toArray, List.set_cons_zero, List.set_cons_succ]
          refine wpAnyH_ready (rs := [12]) (by kernel_rfl) (by simp) ?_
          refine AllReadyH.cons (o := ({ dst := none, op := Go.Op.store 52 (Go.Operand.tmp 41) (Go.Operand.tmp 39), type := 0, pos := "sock.go:48", after := #[{ on := 11, ground := Go.Ground.data }, { on := 9, ground := Go.Ground.data }, { on := 9, ground := Go.Ground.chain }, { on := 0, ground := Go.Ground.phase }, { on := 1, ground := Go.Ground.phase }, { on := 2, ground := Go.Ground.phase }, { on := 3, ground := Go.Ground.phase }, { on := 4, ground := Go.Ground.phase }, { on := 5, ground := Go.Ground.phase }, { on := 6, ground := Go.Ground.phase }, { on := 7, ground := Go.Ground.phase }, { on := 8, ground := Go.Ground.phase }, { on := 9, ground := Go.Ground.phase }], guard := none } : Go.Oper)) rfl (fun K hK => ?_) AllReadyH.nil
          · go_simp
            refine hK.out _ _ Q4 (fun hHeld => ?_)
            clear hK K
            try simp only [Act.put, List.setIfInBounds_toArray, List.set_cons_zero, List.set_cons_succ]
            refine wpAnyH_done (by kernel_rfl) ?_ _
            go_wp2_with fail
            refine Calls.mono HANS.out ?_
            rintro e w' ⟨rfl, hr, hA, hs, ht⟩
            go_wp2
            go_ret2
            exact ⟨g, cap, _, rfl, hr, hA, hs, HTT.out _ ht⟩
  · go_simp
    refine hK.out _ _ Q1 (fun hHeld => ?_)
    clear hK K
    try simp only [Act.put, List.setIfInBounds_toArray, List.set_cons_zero, List.set_cons_succ]
    refine wpAnyH_ready (rs := [4, 8]) (by kernel_rfl) (by simp) ?_
    refine AllReadyH.cons (o := ({ dst := some 34, op := Go.Op.load 52 (Go.Operand.tmp 33), type := 52, pos := "sock.go:48", after := #[{ on := 3, ground := Go.Ground.data }], guard := none } : Go.Oper)) rfl (fun K hK => ?_) (AllReadyH.cons (o := ({ dst := some 38, op := Go.Op.buildSlice 52 1 #[(0, Go.Operand.tmp 37)], type := 52, pos := "sock.go:48", after := #[{ on := 7, ground := Go.Ground.data }], guard := none } : Go.Oper)) rfl (fun K hK => ?_) AllReadyH.nil)
    · go_simp
      refine hK.out _ _ hHeld (fun hHeld => ?_)
      clear hK K
      try simp only [Act.put, List.setIfInBounds_toArray, List.set_cons_zero, List.set_cons_succ]
      refine wpAnyH_ready (rs := [8]) (by kernel_rfl) (by simp) ?_
      refine AllReadyH.cons (o := ({ dst := some 38, op := Go.Op.buildSlice 52 1 #[(0, Go.Operand.tmp 37)], type := 52, pos := "sock.go:48", after := #[{ on := 7, ground := Go.Ground.data }], guard := none } : Go.Oper)) rfl (fun K hK => ?_) AllReadyH.nil
      · go_simp
        refine hK.out _ _ Q2 (fun hHeld => ?_)
        clear hK K
        try simp only [Act.put, List.setIfInBounds_toArray, List.set_cons_zero, List.set_cons_succ]
        refine wpAnyH_ready (rs := [9]) (by kernel_rfl) (by simp) ?_
        refine AllReadyH.cons (o := ({ dst := some 39, op := Go.Op.call { callee := Go.Callee.builtin Go.Builtin.append, args := #[Go.Operand.tmp 34, Go.Operand.tmp 38], argTypes := #[52, 52] }, type := 52, pos := "sock.go:48", after := #[{ on := 4, ground := Go.Ground.data }, { on := 8, ground := Go.Ground.data }], guard := none } : Go.Oper)) rfl (fun K hK => ?_) AllReadyH.nil
        · refine step_append_str (by rfl) _ _ (by rfl) (by rfl) (by rfl) hrun ?_
          refine hK.out _ _ Q3 (fun hHeld => ?_)
          clear hK K
          try simp only [Act.put, List.setIfInBounds_toArray, List.set_cons_zero, List.set_cons_succ]
          refine wpAnyH_take (i := 10) (oi := ({ dst := some 40, op := Go.Op.nilCheck (Go.Operand.tmp 30), type := 0, pos := "sock.go:48", after := #[{ on := 0, ground := Go.Ground.data }, { on := 0, ground := Go.Ground.phase }, { on := 1, ground := Go.Ground.phase }, { on := 2, ground := Go.Ground.phase }, { on := 3, ground := Go.Ground.phase }, { on := 4, ground := Go.Ground.phase }, { on := 5, ground := Go.Ground.phase }, { on := 6, ground := Go.Ground.phase }, { on := 7, ground := Go.Ground.phase }, { on := 8, ground := Go.Ground.phase }, { on := 9, ground := Go.Ground.phase }], guard := none } : Go.Oper)) (v := PB B) rfl (by kernel_rfl) (by kernel_rfl) (by kernel_rfl) (fun _ _ _ h => h) (Or.inl ⟨by rfl, ?_⟩) (by assumption) ?_
          · intro wx hSw
            try dsimp only at hSw
            obtain ⟨u0, u1, u2, u3, u4, u5, u6⟩ := At.seven hSw
            go_simp
            try with_reducible rfl
          try simp only [Act.put, List.setIfInBounds_toArray, List.set_cons_zero, List.set_cons_succ]
          refine wpAnyH_take (i := 11) (oi := ({ dst := some 41, op := Go.Op.fieldAddr 54 (Go.Operand.tmp 40) 2, type := 0, pos := "sock.go:48", after := #[{ on := 10, ground := Go.Ground.data }, { on := 0, ground := Go.Ground.phase }, { on := 1, ground := Go.Ground.phase }, { on := 2, ground := Go.Ground.phase }, { on := 3, ground := Go.Ground.phase }, { on := 4, ground := Go.Ground.phase }, { on := 5, ground := Go.Ground.phase }, { on := 6, ground := Go.Ground.phase }, { on := 7, ground := Go.Ground.phase }, { on := 8, ground := Go.Ground.phase }, { on := 9, ground := Go.Ground.phase }], guard := none } : Go.Oper)) (v := .pointer (some ⟨B, 65, none⟩)) rfl (by kernel_rfl) (by kernel_rfl) (by kernel_rfl) (fun _ _ _ h => h) (Or.inl ⟨by rfl, ?_⟩) (by assumption) ?_
          · intro wx hSw
            try dsimp only at hSw
            obtain ⟨u0, u1, u2, u3, u4, u5, u6⟩ := At.seven hSw
            go_simp
            try with_reducible rfl
          try simp only [Act.put, List.setIfInBounds_toArray, List.set_cons_zero, List.set_cons_succ]
          refine wpAnyH_ready (rs := [12]) (by kernel_rfl) (by simp) ?_
          refine AllReadyH.cons (o := ({ dst := none, op := Go.Op.store 52 (Go.Operand.tmp 41) (Go.Operand.tmp 39), type := 0, pos := "sock.go:48", after := #[{ on := 11, ground := Go.Ground.data }, { on := 9, ground := Go.Ground.data }, { on := 9, ground := Go.Ground.chain }, { on := 0, ground := Go.Ground.phase }, { on := 1, ground := Go.Ground.phase }, { on := 2, ground := Go.Ground.phase }, { on := 3, ground := Go.Ground.phase }, { on := 4, ground := Go.Ground.phase }, { on := 5, ground := Go.Ground.phase }, { on := 6, ground := Go.Ground.phase }, { on := 7, ground := Go.Ground.phase }, { on := 8, ground := Go.Ground.phase }, { on := 9, ground := Go.Ground.phase }], guard := none } : Go.Oper)) rfl (fun K hK => ?_) AllReadyH.nil
          · go_simp
            refine hK.out _ _ Q4 (fun hHeld => ?_)
            clear hK K
            try simp only [Act.put, List.setIfInBounds_toArray, List.set_cons_zero, List.set_cons_succ]
            refine wpAnyH_done (by kernel_rfl) ?_ _
            go_wp2_with fail
            refine Calls.mono HANS.out ?_
            rintro e w' ⟨rfl, hr, hA, hs, ht⟩
            go_wp2
            go_ret2
            exact ⟨g, cap, _, rfl, hr, hA, hs, HTT.out _ ht⟩
    · go_simp
      refine hK.out _ _ Q2 (fun hHeld => ?_)
      clear hK K
      try simp only [Act.put, List.setIfInBounds_toArray, List.set_cons_zero, List.set_cons_succ]
      refine wpAnyH_ready (rs := [4]) (by kernel_rfl) (by simp) ?_
      refine AllReadyH.cons (o := ({ dst := some 34, op := Go.Op.load 52 (Go.Operand.tmp 33), type := 52, pos := "sock.go:48", after := #[{ on := 3, ground := Go.Ground.data }], guard := none } : Go.Oper)) rfl (fun K hK => ?_) AllReadyH.nil
      · go_simp
        refine hK.out _ _ hHeld (fun hHeld => ?_)
        clear hK K
        try simp only [Act.put, List.setIfInBounds_toArray, List.set_cons_zero, List.set_cons_succ]
        refine wpAnyH_ready (rs := [9]) (by kernel_rfl) (by simp) ?_
        refine AllReadyH.cons (o := ({ dst := some 39, op := Go.Op.call { callee := Go.Callee.builtin Go.Builtin.append, args := #[Go.Operand.tmp 34, Go.Operand.tmp 38], argTypes := #[52, 52] }, type := 52, pos := "sock.go:48", after := #[{ on := 4, ground := Go.Ground.data }, { on := 8, ground := Go.Ground.data }], guard := none } : Go.Oper)) rfl (fun K hK => ?_) AllReadyH.nil
        · refine step_append_str (by rfl) _ _ (by rfl) (by rfl) (by rfl) hrun ?_
          refine hK.out _ _ Q3 (fun hHeld => ?_)
          clear hK K
          try simp only [Act.put, List.setIfInBounds_toArray, List.set_cons_zero, List.set_cons_succ]
          refine wpAnyH_take (i := 10) (oi := ({ dst := some 40, op := Go.Op.nilCheck (Go.Operand.tmp 30), type := 0, pos := "sock.go:48", after := #[{ on := 0, ground := Go.Ground.data }, { on := 0, ground := Go.Ground.phase }, { on := 1, ground := Go.Ground.phase }, { on := 2, ground := Go.Ground.phase }, { on := 3, ground := Go.Ground.phase }, { on := 4, ground := Go.Ground.phase }, { on := 5, ground := Go.Ground.phase }, { on := 6, ground := Go.Ground.phase }, { on := 7, ground := Go.Ground.phase }, { on := 8, ground := Go.Ground.phase }, { on := 9, ground := Go.Ground.phase }], guard := none } : Go.Oper)) (v := PB B) rfl (by kernel_rfl) (by kernel_rfl) (by kernel_rfl) (fun _ _ _ h => h) (Or.inl ⟨by rfl, ?_⟩) (by assumption) ?_
          · intro wx hSw
            try dsimp only at hSw
            obtain ⟨u0, u1, u2, u3, u4, u5, u6⟩ := At.seven hSw
            go_simp
            try with_reducible rfl
          try simp only [Act.put, List.setIfInBounds_toArray, List.set_cons_zero, List.set_cons_succ]
          refine wpAnyH_take (i := 11) (oi := ({ dst := some 41, op := Go.Op.fieldAddr 54 (Go.Operand.tmp 40) 2, type := 0, pos := "sock.go:48", after := #[{ on := 10, ground := Go.Ground.data }, { on := 0, ground := Go.Ground.phase }, { on := 1, ground := Go.Ground.phase }, { on := 2, ground := Go.Ground.phase }, { on := 3, ground := Go.Ground.phase }, { on := 4, ground := Go.Ground.phase }, { on := 5, ground := Go.Ground.phase }, { on := 6, ground := Go.Ground.phase }, { on := 7, ground := Go.Ground.phase }, { on := 8, ground := Go.Ground.phase }, { on := 9, ground := Go.Ground.phase }], guard := none } : Go.Oper)) (v := .pointer (some ⟨B, 65, none⟩)) rfl (by kernel_rfl) (by kernel_rfl) (by kernel_rfl) (fun _ _ _ h => h) (Or.inl ⟨by rfl, ?_⟩) (by assumption) ?_
          · intro wx hSw
            try dsimp only at hSw
            obtain ⟨u0, u1, u2, u3, u4, u5, u6⟩ := At.seven hSw
            go_simp
            try with_reducible rfl
          try simp only [Act.put, List.setIfInBounds_toArray, List.set_cons_zero, List.set_cons_succ]
          refine wpAnyH_ready (rs := [12]) (by kernel_rfl) (by simp) ?_
          refine AllReadyH.cons (o := ({ dst := none, op := Go.Op.store 52 (Go.Operand.tmp 41) (Go.Operand.tmp 39), type := 0, pos := "sock.go:48", after := #[{ on := 11, ground := Go.Ground.data }, { on := 9, ground := Go.Ground.data }, { on := 9, ground := Go.Ground.chain }, { on := 0, ground := Go.Ground.phase }, { on := 1, ground := Go.Ground.phase }, { on := 2, ground := Go.Ground.phase }, { on := 3, ground := Go.Ground.phase }, { on := 4, ground := Go.Ground.phase }, { on := 5, ground := Go.Ground.phase }, { on := 6, ground := Go.Ground.phase }, { on := 7, ground := Go.Ground.phase }, { on := 8, ground := Go.Ground.phase }, { on := 9, ground := Go.Ground.phase }], guard := none } : Go.Oper)) rfl (fun K hK => ?_) AllReadyH.nil
          · go_simp
            refine hK.out _ _ Q4 (fun hHeld => ?_)
            clear hK K
            try simp only [Act.put, List.setIfInBounds_toArray, List.set_cons_zero, List.set_cons_succ]
            refine wpAnyH_done (by kernel_rfl) ?_ _
            go_wp2_with fail
            refine Calls.mono HANS.out ?_
            rintro e w' ⟨rfl, hr, hA, hs, ht⟩
            go_wp2
            go_ret2
            exact ⟨g, cap, _, rfl, hr, hA, hs, HTT.out _ ht⟩
end Go.Proofs.YthbpapgfjmpgaaaGreat
