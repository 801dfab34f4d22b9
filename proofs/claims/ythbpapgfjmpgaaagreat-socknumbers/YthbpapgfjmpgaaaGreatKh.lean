/- append of one answer; answer. -/
import Derived.Test.YthbpapgfjmpgaaaGreatKg
namespace Go.Proofs.YthbpapgfjmpgaaaGreat
open Go.RowKit Go.Maps
set_option maxRecDepth 100000
set_option linter.unusedVariables false
set_option linter.unusedSimpArgs false


theorem info43 : (Tryz.prog.info? 43).map (fun i => (i.zero, i.size, i.bytes)) = some (some (.agg #[.int .i64 0, .int .i64 0, .int .i64 0, .int .i64 0, .string ⟨#[]⟩]), 5, 48) := by kernel_rfl
theorem frozen_own {w : World} {g : Nat} {cur : Array Value} {t : TypeId} (h : w.heap[g]? = some (.cells cur t (0, 0))) (i : Nat) : w.frozen? ⟨g, i, none⟩ = false := by simp [World.frozen?, h]
theorem bel_grown {w w' : World} (h : w.grownBy w' none) : Below w.heap.size w w' := ⟨h.os, h.tape, h.output, h.size, fun k hk => h.block k hk (by simp)⟩
/-- append of one answer to none. -/
theorem app_done {w : World} {x : Nat} {a0 a1 a2 a3 a4 : Value} (h : At w x #[a0, a1, a2, a3, a4]) (h1 : ∀ u ∈ [a0, a1, a2, a3, a4], u.oneCell' = true) (ty : TypeId) :
    ∃ D cap w', (Builtin.append_ #[36, 36] ty #[.slice none 0 0, .slice (some ⟨x, 0, none⟩) 1 1]).run Tryz.prog w = .ok (.slice (some ⟨D, 0, none⟩) 1 cap) w' ∧ At w' D #[a0, a1, a2, a3, a4] ∧ w.heap.size ≤ D ∧ Below w.heap.size w w' := by
  obtain ⟨i0, hi, hz0, hz1, hz2⟩ := info_parts info43
  obtain ⟨v', w', e1, e2, e3, e4, e5⟩ := run_append_own_at (P := Tryz.prog) w 0 36 ty 43 i0 _ 5 48 Tryz.underlying36 hi hz0 hz1 hz2 rfl (by decide) (.slice none 0 0) 0 [] (World.ownsRow_nil _ _ _ _) ⟨x, 0, none⟩ 1 1 [a0, a1, a2, a3, a4] rfl (fun j u hu => by
    rw [Addr.add_mid, Nat.zero_add]
    exact (h.2 j u (by simpa using hu)).1) h1 (by unfold maxLen; omega) (by omega) (Nat.zero_le _)
  rcases e2.2 with ⟨-, h0⟩ | ⟨g, cap, cur, rfl, hg, hb, c1, c2, c3, c4⟩
  · omega
  · have hgs : g = w.heap.size := by
      rcases e5 with e | e
      · cases e
      · cases e; rfl
    refine ⟨g, cap, w', e1, ⟨(Array.getElem?_eq_some_iff.1 hb).1, fun i u hu => ⟨?_, frozen_own hb i⟩⟩, by omega, bel_grown e3⟩
    have := e2.cells (g := g) rfl i u (by simpa using hu)
    rwa [Addr.add_mid, Nat.zero_add] at this
/-- The example's state between calls: nobody waits. -/
structure AK (w : World) (B T L M : Nat) (s : Nat → Int) (v : Value) (l : List Vn) : Prop where
  sk : SK w B T L M s v l
  wr : WR w v []
  ap : ∀ k, v.ownBlock = some k → k ≠ B ∧ k ≠ T ∧ k ≠ L ∧ k ≠ M
theorem turn_bs {B T L J g : Nat} {w a b : World} (h : Turn (fun k => k = B ∨ k = T ∨ k = L ∨ k = g) w a) (k : Turn (BS B T L J) a b) (hJ : w.heap.size ≤ J) : Turn (fun k => k = B ∨ k = T ∨ k = L ∨ k = g) w b :=
  h.step k fun j e => by
    rcases e with e | e | e | e
    · exact Or.inl (Or.inl e)
    · exact Or.inl (Or.inr (Or.inl e))
    · exact Or.inl (Or.inr (Or.inr (Or.inl e)))
    · exact Or.inr (by omega)
theorem SK.ne {w : World} {B T L M : Nat} {s : Nat → Int} {v : Value} {l : List Vn} (h : SK w B T L M s v l) : True := trivial
set_option maxHeartbeats 2000000 in
theorem answer_any {kind fd port c f : Int} {s s' : Nat → Int} {l l' : List Vn} (hT : TurnC kind fd port s l c f true s' l') {w : World} {B T L M g cap W : Nat} {tag now : Int}
    (h : SK w B T L M s (.slice (some ⟨g, 0, none⟩) 1 cap) l) (hg : WR w (.slice (some ⟨g, 0, none⟩) 1 cap) [PB W]) (hW : At w W (waitV tag kind fd port)) (w1 : W ≠ B) (w2 : W ≠ T) (w3 : W ≠ L) (g1 : g ≠ B) (g2 : g ≠ T) (g3 : g ≠ L) (g4 : g ≠ M) (g5 : g ≠ W) :
    Calls Tryz.prog 13 #[PB B, .int .i64 now, .slice none 0 0] w fun e w' => ∃ D cp, e = .returned (.tuple #[.slice (some ⟨D, 0, none⟩) 1 cp, .slice none 0 0]) ∧ At w' D #[.int .i64 tag, .int .i64 c, .int .i64 f, .int .i64 0, .string ⟨#[]⟩] ∧
      AK w' B T L M s' (.slice (some ⟨g, 0, none⟩) 0 cap) l' ∧ Turn (fun k => k = B ∨ k = T ∨ k = L ∨ k = g) w w' ∧ w.heap.size ≤ D ∧ g ≠ D := by
  have HT : Hid (TurnC kind fd port s l c f true s' l') := hT
  clear hT
  go_enter Tryz.func13, Tryz.ntmps13
  go_upto_region 2 with fail
  have q1 := bel1 w (.cells #[PB B, .int .i64 now, .slice none 0 0] 72)
  have hJ := At.box w #[PB B, .int .i64 now, .slice none 0 0] 72
  have j1 : w.heap.size ≠ B ∧ w.heap.size ≠ T ∧ w.heap.size ≠ L ∧ w.heap.size ≠ M ∧ w.heap.size ≠ W ∧ w.heap.size ≠ g := by
    have a := h.lt; have b := hW.1; have c := World.ownsRow.lt hg g rfl; omega
  have h := h.later q1
  have hW := hW.later q1
  have hg := row_later hg q1
  have ht := Turn.of_below (S := fun k => k = B ∨ k = T ∨ k = L ∨ k = g) q1
  clear q1
  generalize w.alloc (.cells #[PB B, .int .i64 now, .slice none 0 0] 72) = x1 at *
  obtain ⟨J, hJe⟩ : ∃ x, x = w.heap.size := ⟨_, rfl⟩
  rw [← hJe] at hJ j1 ⊢
  have hJle : w.heap.size ≤ J := by omega
  clear hJe
  obtain ⟨j1, j2, j3, j4, j5, j6⟩ := j1
  have cB := h.b.cv
  have cg : x1.cell? ⟨g, 0, none⟩ = some (PB W) := hg.cells (g := g) rfl 0 _ rfl
  go_wp2_with fail
  refine wp_loop_rounds 2 ?_
  rw [rounds_succ]
  go_wp2_with fail
  refine (HT.out x1 B T L M J W _ tag now h hJ hW j1 j2 j3 j4 w1 w2 w3 (fun e => j5 e.symm)).mono ?_
  rintro e x2 ⟨rfl, h2, J2, ht2⟩
  have W2 := hW.turn ht2 (fun e => by rcases e with e | e | e | e <;> first | exact w1 e | exact w2 e | exact w3 e | exact j5 e.symm)
  have R2 := row_turn hg ht2 (fun k hk e => by cases hk; rcases e with e | e | e | e <;> first | exact g1 e | exact g2 e | exact g3 e | exact j6 e.symm)
  have ht2 : Turn (fun k => k = B ∨ k = T ∨ k = L ∨ k = g) w x2 := turn_bs ht ht2 hJle
  clear h hJ hW hg cB cg ht HT
  go_upto_region 5 with fail
  have q1 := bel1 x2 (.cells #[.int .i64 0, .int .i64 c, .int .i64 f, .int .i64 0, .string ⟨#[]⟩] 43)
  have hY := At.box x2 #[.int .i64 0, .int .i64 c, .int .i64 f, .int .i64 0, .string ⟨#[]⟩] 43
  have h3 := h2.later q1
  have J3 := J2.later q1
  have W3 := W2.later q1
  have R3 := row_later R2 q1
  have t3 := ht2.later q1
  have hY1 : x2.heap.size ≠ B ∧ x2.heap.size ≠ T ∧ x2.heap.size ≠ L ∧ x2.heap.size ≠ M ∧ x2.heap.size ≠ W ∧ x2.heap.size ≠ g ∧ x2.heap.size ≠ J := by
    have a := h2.lt; have b := W2.1; have c := World.ownsRow.lt R2 g rfl; have d := J2.1; omega
  have hsz := ht2.size
  clear q1 h2 J2 W2 R2 ht2
  generalize x2.alloc (.cells #[.int .i64 0, .int .i64 c, .int .i64 f, .int .i64 0, .string ⟨#[]⟩] 43) = x3 at *
  obtain ⟨Y, hYe⟩ : ∃ x, x = x2.heap.size := ⟨_, rfl⟩
  rw [← hYe] at hY hY1 hsz ⊢
  clear hYe
  obtain ⟨y1, y2, y3, y4, y5, y6, y7⟩ := hY1
  have cB := h3.b.cv
  have cg : x3.cell? ⟨g, 0, none⟩ = some (PB W) := R3.cells (g := g) rfl 0 _ rfl
  have cw : x3.cell? ⟨W, 0, none⟩ = some (.int .i64 tag) := (W3.2 0 _ rfl).1
  have cy := (hY.2 0 _ rfl).1
  have fy := (hY.2 0 _ rfl).2
  go_upto_region 8 with go_in
  have Y4 := hY.set 0 (.int .i64 tag)
  have ts := turn_set x3 Y 0 (.int .i64 tag)
  have h4 := h3.step ts y1.symm y2.symm y3.symm y4.symm
  have J4 := J3.turn ts (fun e => y7 e.symm)
  have R4 := row_turn R3 ts (by rintro k hk; cases hk; exact fun e => y6 e.symm)
  have t4 := t3.step ts (fun k e => Or.inr (by omega))
  clear cB cg cw cy fy h3 J3 W3 R3 t3 ts hY
  generalize x3.setCell ⟨Y, 0, none⟩ (.int .i64 tag) = x4 at *
  have Y4 : At x4 Y #[.int .i64 tag, .int .i64 c, .int .i64 f, .int .i64 0, .string ⟨#[]⟩] := Y4
  obtain ⟨r0, r1, r2, r3, r4, -⟩ := Y4.five
  have q1 := bel1 x4 (.cells #[.int .i64 tag, .int .i64 c, .int .i64 f, .int .i64 0, .string ⟨#[]⟩] 43)
  obtain ⟨D, cp, x5, hap, hD, hDle, hb5⟩ := app_done (At.box x4 #[.int .i64 tag, .int .i64 c, .int .i64 f, .int .i64 0, .string ⟨#[]⟩] 43) (by intro u hu; simp at hu; rcases hu with rfl | rfl | rfl | rfl | rfl <;> rfl) 36
  have q2 := bt q1 hb5
  have hD9 : x4.heap.size ≤ D := Nat.le_trans q1.size hDle
  clear hb5 q1 hDle
  go_upto_region 9 with (first
    | (at_builtin; refine wpList_append_eq rfl _ _ rfl rfl rfl hap ?_)
    | go_in)
  have h5 := h4.later q2
  have J5 := J4.later q2
  have R5 := row_later R4 q2
  have t5 := t4.later q2
  have hd : D ≠ B ∧ D ≠ g ∧ D ≠ J := by have a := h4.lt; have c := World.ownsRow.lt R4 g rfl; have d := J4.1; omega
  have HD9 : Hid (w.heap.size ≤ D ∧ g ≠ D) := ⟨by have := t4.size; omega, fun e => hd.2.1 e.symm⟩
  clear r0 r1 r2 r3 r4 Y4 hap q2 h4 J4 R4 t4
  have cB := h5.b.cv
  go_wp2_with fail
  refine (del_one R5).mono ?_
  rintro e x6 ⟨rfl, R6, ht6⟩
  have h6 := h5.step ht6 g1.symm g2.symm g3.symm g4.symm
  have J6 := J5.turn ht6 j6
  have D6 := hD.turn ht6 hd.2.1
  have t6 := t5.trans (ht6.mono fun k e => Or.inr (Or.inr (Or.inr e)))
  clear cB h5 J5 R5 t5 hD ht6
  have cB := h6.b.cv
  have fB := h6.b.fv
  go_upto_region 10 with go_in
  have ts := turn_set x6 B 65 (.slice (some ⟨g, 0, none⟩) 0 cap)
  have b7 := h6.b.setV (.slice (some ⟨g, 0, none⟩) 0 cap)
  have h7 : SK (x6.setCell ⟨B, 65, none⟩ (.slice (some ⟨g, 0, none⟩) 0 cap)) B T L M s' (.slice (some ⟨g, 0, none⟩) 0 cap) l' := ⟨b7, h6.t.turn ts (fun e => h6.n1 e.symm) (fun e => h6.n2 e.symm) (fun e => h6.n3 e.symm), h6.n1, h6.n2, h6.n3⟩
  have J7 := J6.turn ts j1
  have D7 := D6.turn ts hd.1
  have R7 := row_turn R6 ts (by rintro k hk; cases hk; exact g1)
  have t7 := t6.trans (ts.mono fun k e => Or.inl e)
  clear cB fB b7 h6 J6 D6 R6 t6 ts
  generalize x6.setCell ⟨B, 65, none⟩ (.slice (some ⟨g, 0, none⟩) 0 cap) = x7 at *
  have cB := h7.b.cv
  go_upto_region 3 with go_in
  rw [rounds_succ]
  go_upto_region 11 with go_in
  have cj : x7.cell? ⟨J, 2, none⟩ = some (.slice none 0 0) := (J7.2 2 _ rfl).1
  go_quiet (fail)
  have bq := below_drewN (Below.refl x7.heap.size x7) nq
  go_wp2
  go_ret2
  exact ⟨D, cp, rfl, D7.later bq, ⟨h7.later bq, row_later R7 bq, fun k hk => by cases hk; exact ⟨g1, g2, g3, g4⟩⟩, t7.later bq, HD9.out⟩
set_option maxHeartbeats 2000000 in
theorem answer_wait {kind fd port c f : Int} {s s' : Nat → Int} {l l' : List Vn} (hT : TurnC kind fd port s l c f false s' l') {w : World} {B T L M g cap W : Nat} {tag now : Int}
    (h : SK w B T L M s (.slice (some ⟨g, 0, none⟩) 1 cap) l) (hg : WR w (.slice (some ⟨g, 0, none⟩) 1 cap) [PB W]) (hW : At w W (waitV tag kind fd port)) (w1 : W ≠ B) (w2 : W ≠ T) (w3 : W ≠ L) (g1 : g ≠ B) (g2 : g ≠ T) (g3 : g ≠ L) (g4 : g ≠ M) (g5 : g ≠ W) :
    Calls Tryz.prog 13 #[PB B, .int .i64 now, .slice none 0 0] w fun e w' => e = .returned (.tuple #[.slice none 0 0, .slice none 0 0]) ∧ WR w' (.slice (some ⟨g, 0, none⟩) 1 cap) [PB W] ∧ At w' W (waitV tag kind fd port) ∧
      SK w' B T L M s' (.slice (some ⟨g, 0, none⟩) 1 cap) l' ∧ Turn (fun k => k = B ∨ k = T ∨ k = L ∨ k = g) w w' := by
  have HT : Hid (TurnC kind fd port s l c f false s' l') := hT
  clear hT
  go_enter Tryz.func13, Tryz.ntmps13
  go_upto_region 2 with fail
  have q1 := bel1 w (.cells #[PB B, .int .i64 now, .slice none 0 0] 72)
  have hJ := At.box w #[PB B, .int .i64 now, .slice none 0 0] 72
  have j1 : w.heap.size ≠ B ∧ w.heap.size ≠ T ∧ w.heap.size ≠ L ∧ w.heap.size ≠ M ∧ w.heap.size ≠ W ∧ w.heap.size ≠ g := by
    have a := h.lt; have b := hW.1; have c := World.ownsRow.lt hg g rfl; omega
  have h := h.later q1
  have hW := hW.later q1
  have hg := row_later hg q1
  have ht := Turn.of_below (S := fun k => k = B ∨ k = T ∨ k = L ∨ k = g) q1
  clear q1
  generalize w.alloc (.cells #[PB B, .int .i64 now, .slice none 0 0] 72) = x1 at *
  obtain ⟨J, hJe⟩ : ∃ x, x = w.heap.size := ⟨_, rfl⟩
  rw [← hJe] at hJ j1 ⊢
  have hJle : w.heap.size ≤ J := by omega
  clear hJe
  obtain ⟨j1, j2, j3, j4, j5, j6⟩ := j1
  have cB := h.b.cv
  have cg : x1.cell? ⟨g, 0, none⟩ = some (PB W) := hg.cells (g := g) rfl 0 _ rfl
  go_wp2_with fail
  refine wp_loop_rounds 2 ?_
  rw [rounds_succ]
  go_wp2_with fail
  refine (HT.out x1 B T L M J W _ tag now h hJ hW j1 j2 j3 j4 w1 w2 w3 (fun e => j5 e.symm)).mono ?_
  rintro e x2 ⟨rfl, h2, J2, ht2⟩
  have W2 := hW.turn ht2 (fun e => by rcases e with e | e | e | e <;> first | exact w1 e | exact w2 e | exact w3 e | exact j5 e.symm)
  have R2 := row_turn hg ht2 (fun k hk e => by cases hk; rcases e with e | e | e | e <;> first | exact g1 e | exact g2 e | exact g3 e | exact j6 e.symm)
  have ht2 : Turn (fun k => k = B ∨ k = T ∨ k = L ∨ k = g) w x2 := turn_bs ht ht2 hJle
  clear h hJ hW hg cB cg ht HT
  go_upto_region 5 with fail
  have q1 := bel1 x2 (.cells #[.int .i64 0, .int .i64 c, .int .i64 f, .int .i64 0, .string ⟨#[]⟩] 43)
  have h3 := h2.later q1
  have J3 := J2.later q1
  have W3 := W2.later q1
  have R3 := row_later R2 q1
  have t3 := ht2.later q1
  clear q1 h2 J2 W2 R2 ht2
  generalize x2.alloc (.cells #[.int .i64 0, .int .i64 c, .int .i64 f, .int .i64 0, .string ⟨#[]⟩] 43) = x3 at *
  have cB := h3.b.cv
  go_upto_region 3 with go_in
  rw [rounds_succ]
  go_upto_region 11 with go_in
  have cj : x3.cell? ⟨J, 2, none⟩ = some (.slice none 0 0) := (J3.2 2 _ rfl).1
  go_quiet (fail)
  have bq := below_drewN (Below.refl x3.heap.size x3) nq
  go_wp2
  go_ret2
  exact ⟨rfl, row_later R3 bq, W3.later bq, h3.later bq, t3.later bq⟩
end Go.Proofs.YthbpapgfjmpgaaaGreat
