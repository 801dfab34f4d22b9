/- the texts KFe, KFf, in part, merged by program -/
import Derived.Test.YthjbmloemmggaaaGreatDoorRows
import Derived.WalkKit
import Derived.WalkSpells
import Derived.Maps.RangeWalk
import Derived.Maps.OwnSet
import Derived.Maps.Ext
import Derived.Maps.Keyed
import Derived.DeepKeys4
import Derived.WalkSmall
import Derived.Deep.Cut
import Derived.Deep.CutRange
import Derived.Deep.MidRow
import Derived.Deep.QuietTactic
import Derived.BigQuiet
import Derived.Deep.RegionWith
import Derived.OwnWalk
import Derived.Laws.CopyRow
import Derived.Laws.OwnMore
import Derived.Laws.AppendOwn
import Derived.Laws.AppendOwnNone
import Derived.Carry
import Derived.Deep.RegionHeld3
import Derived.LoopN
import Derived.Test.YthjbmloemmggaaaGreatDoorMA01
import Derived.Test.YthjbmloemmggaaaGreatDoorMA04
import Derived.Test.YthjbmloemmggaaaGreatDoorMA07
import Derived.Test.YthjbmloemmggaaaGreatDoorMA08
namespace Go.Proofs.YthjbmloemmggaaaGreatDoor.Ip
open Go.RowKit Go.Maps
set_option maxRecDepth 100000
set_option linter.unusedVariables false
set_option linter.unusedSimpArgs false

theorem tl_eq (a b : ByteArray) : (a.toList == b.toList) = decide (a = b) := by
  by_cases h : a = b
  · subst h; simp
  · rw [decide_eq_false h]
    simp only [beq_eq_false_iff_ne, ne_eq]
    exact fun e => h (list_inj e)
theorem has1_any (p q : Pk) (B : Nat) (w : World) (hB : At w B #[.int .i64 p.f, .int .i64 p.t, .int .i64 p.tl, .int .i64 p.pr, .int .i64 p.id, .int .i64 p.fr, .bool p.mo, .bool p.dn, .string p.op, .string p.da]) : Calls Tryz.prog 71 #[.agg #[.int .i64 q.f, .int .i64 q.t, .int .i64 q.tl, .int .i64 q.pr, .int .i64 q.id, .int .i64 q.fr, .bool q.mo, .bool q.dn, .string q.op, .string q.da], .pointer (some ⟨B, 0, none⟩)] w fun e w' => e = .returned (.bool (hasB p q)) ∧ Below w.heap.size w w' := by
  have hA := At.box w #[.int .i64 q.f, .int .i64 q.t, .int .i64 q.tl, .int .i64 q.pr, .int .i64 q.id, .int .i64 q.fr, .bool q.mo, .bool q.dn, .string q.op, .string q.da] 23
  have hl := bel1 w (.cells #[.int .i64 q.f, .int .i64 q.t, .int .i64 q.tl, .int .i64 q.pr, .int .i64 q.id, .int .i64 q.fr, .bool q.mo, .bool q.dn, .string q.op, .string q.da] 23)
  replace hB := hB.later hl
  unfold hasB
  go_enter Tryz.func71, Tryz.ntmps71
  go_upto_region 1 with fail
  obtain ⟨Bq, hBq⟩ : ∃ x, x = w.heap.size := ⟨_, rfl⟩
  rw [← hBq] at hA
  rw [← hBq]
  have HL : Hid (Below w.heap.size w (w.alloc (.cells #[.int .i64 q.f, .int .i64 q.t, .int .i64 q.tl, .int .i64 q.pr, .int .i64 q.id, .int .i64 q.fr, .bool q.mo, .bool q.dn, .string q.op, .string q.da] 23))) := hl
  clear hl hBq
  generalize w.alloc (.cells #[.int .i64 q.f, .int .i64 q.t, .int .i64 q.tl, .int .i64 q.pr, .int .i64 q.id, .int .i64 q.fr, .bool q.mo, .bool q.dn, .string q.op, .string q.da] 23) = W0 at *
  obtain ⟨⟨c0, c1, c2, c3, c4, c5, c6, c7, c8, c9⟩, -, -⟩ := hB.ten
  obtain ⟨⟨d0, d1, d2, d3, d4, d5, d6, d7, d8, d9⟩, -, -⟩ := hA.ten
  clear hA hB
  by_cases h1 : q.fr = p.fr
  · have h1' : (q.fr == p.fr) = true := by simp [h1]
    have H1 : Hid (q.fr = p.fr) := h1
    clear h1
    by_cases h2 : q.da = p.da
    · have h2' : (q.da.toList == p.da.toList) = true := by rw [h2]; simp
      have H2 : Hid (q.da = p.da) := h2
      clear h2
      go_wp2
      go_ret
      exact ⟨by rw [decide_eq_true H1.out, decide_eq_true H2.out]; simp, HL.out⟩
    · have h2' : (q.da.toList == p.da.toList) = false := by rw [tl_eq]; exact decide_eq_false h2
      have H2 : Hid (¬ q.da = p.da) := h2
      clear h2
      go_wp2
      go_ret
      exact ⟨by rw [decide_eq_false H2.out]; simp, HL.out⟩
  · have h1' : (q.fr == p.fr) = false := by simp [h1]
    have H1 : Hid (¬ q.fr = p.fr) := h1
    clear h1
    go_wp2
    go_ret
    exact ⟨by rw [decide_eq_false H1.out]; simp, HL.out⟩
theorem fits1_any (p q : Pk) (B : Nat) (w : World) (hB : At w B #[.int .i64 p.f, .int .i64 p.t, .int .i64 p.tl, .int .i64 p.pr, .int .i64 p.id, .int .i64 p.fr, .bool p.mo, .bool p.dn, .string p.op, .string p.da]) (h : p.Fine) (k : q.Fine) : Calls Tryz.prog 73 #[.agg #[.int .i64 q.f, .int .i64 q.t, .int .i64 q.tl, .int .i64 q.pr, .int .i64 q.id, .int .i64 q.fr, .bool q.mo, .bool q.dn, .string q.op, .string q.da], .pointer (some ⟨B, 0, none⟩)] w fun e w' => e = .returned (.bool (clashB p q)) ∧ Below w.heap.size w w' := by
  have hA := At.box w #[.int .i64 q.f, .int .i64 q.t, .int .i64 q.tl, .int .i64 q.pr, .int .i64 q.id, .int .i64 q.fr, .bool q.mo, .bool q.dn, .string q.op, .string q.da] 23
  have hl := bel1 w (.cells #[.int .i64 q.f, .int .i64 q.t, .int .i64 q.tl, .int .i64 q.pr, .int .i64 q.id, .int .i64 q.fr, .bool q.mo, .bool q.dn, .string q.op, .string q.da] 23)
  replace hB := hB.later hl
  go_enter Tryz.func73, Tryz.ntmps73
  go_upto_region 1 with fail
  obtain ⟨Bq, hBq⟩ : ∃ x, x = w.heap.size := ⟨_, rfl⟩
  rw [← hBq] at hA
  rw [← hBq]
  have HL : Hid (Below w.heap.size w (w.alloc (.cells #[.int .i64 q.f, .int .i64 q.t, .int .i64 q.tl, .int .i64 q.pr, .int .i64 q.id, .int .i64 q.fr, .bool q.mo, .bool q.dn, .string q.op, .string q.da] 23))) := hl
  clear hl hBq
  generalize w.alloc (.cells #[.int .i64 q.f, .int .i64 q.t, .int .i64 q.tl, .int .i64 q.pr, .int .i64 q.id, .int .i64 q.fr, .bool q.mo, .bool q.dn, .string q.op, .string q.da] 23) = W0 at *
  obtain ⟨⟨c0, c1, c2, c3, c4, c5, c6, c7, c8, c9⟩, -, -⟩ := hB.ten
  obtain ⟨⟨d0, d1, d2, d3, d4, d5, d6, d7, d8, d9⟩, -, -⟩ := hA.ten
  clear hA hB
  go_wp2_with fail
  refine (clash_any p q _ h k).mono ?_
  rintro e w1 ⟨rfl, l1⟩
  go_wp2
  go_ret
  exact ⟨rfl, bt HL.out l1⟩
theorem has_any (p : Pk) (ps : List Pk) (at_ tu : Int) (v : Value) (R : Nat) (w : World) (hr : RW w R v ps) (hn : ps.length ≤ 1000000) :
    Calls Tryz.prog 54 #[.agg #[.int .i64 at_, .int .i64 tu, v], .agg #[.int .i64 p.f, .int .i64 p.t, .int .i64 p.tl, .int .i64 p.pr, .int .i64 p.id, .int .i64 p.fr, .bool p.mo, .bool p.dn, .string p.op, .string p.da]] w fun e w' => e = .returned (.bool (ps.any (hasB p))) ∧ Below w.heap.size w w' := by
  have hX := (At.box w #[.int .i64 at_, .int .i64 tu, v] 115).later (bel1 _ (.cells #[.int .i64 p.f, .int .i64 p.t, .int .i64 p.tl, .int .i64 p.pr, .int .i64 p.id, .int .i64 p.fr, .bool p.mo, .bool p.dn, .string p.op, .string p.da] 23))
  have hB := At.box2 w (.cells #[.int .i64 at_, .int .i64 tu, v] 115) #[.int .i64 p.f, .int .i64 p.t, .int .i64 p.tl, .int .i64 p.pr, .int .i64 p.id, .int .i64 p.fr, .bool p.mo, .bool p.dn, .string p.op, .string p.da] 23
  have hl := bt (bel1 w (.cells #[.int .i64 at_, .int .i64 tu, v] 115)) (bel1 _ (.cells #[.int .i64 p.f, .int .i64 p.t, .int .i64 p.tl, .int .i64 p.pr, .int .i64 p.id, .int .i64 p.fr, .bool p.mo, .bool p.dn, .string p.op, .string p.da] 23))
  have hr' := hr.later hl
  clear hr
  go_enter Tryz.func54, Tryz.ntmps54
  go_upto_region 1 with fail
  generalize (w.alloc (.cells #[.int .i64 at_, .int .i64 tu, v] 115)).alloc (.cells #[.int .i64 p.f, .int .i64 p.t, .int .i64 p.tl, .int .i64 p.pr, .int .i64 p.id, .int .i64 p.fr, .bool p.mo, .bool p.dn, .string p.op, .string p.da] 23) = W0 at *
  have x2 := (hX.2 2 _ rfl).1
  have hcon := cont_has p ps (w.heap.size + 1) W0 v R hr' hn (fun W q hq hb => has1_any p q _ W (hB.later hb))
  clear hX hB
  go_wp2_with fail
  refine hcon.mono ?_
  rintro e w1 ⟨rfl, l1⟩
  go_wp2
  go_ret
  exact ⟨rfl, bt hl l1⟩
def fitsL (ps : List Pk) (p : Pk) : Bool := decide (p.en + 20 + (p.op.size : Int) ≤ 65535) && decide (ps.length < 64) && !ps.any (clashB p)
theorem keep13 {W x : World} {a0 : Addr} {a1 : Addr} {a2 : Addr} {a3 : Addr} {a4 : Addr} {a5 : Addr} {a6 : Addr} {a7 : Addr} {a8 : Addr} {a9 : Addr} {a10 : Addr} {v0 : Value} {v1 : Value} {v2 : Value} {v3 : Value} {v4 : Value} {v5 : Value} {v6 : Value} {v7 : Value} {v8 : Value} {v9 : Value} {v10 : Value} {w0 : World} (hb : Below W.heap.size W x) (h : Below w0.heap.size w0 W ∧ W.cell? a0 = some v0 ∧ W.cell? a1 = some v1 ∧ W.cell? a2 = some v2 ∧ W.cell? a3 = some v3 ∧ W.cell? a4 = some v4 ∧ W.cell? a5 = some v5 ∧ W.cell? a6 = some v6 ∧ W.cell? a7 = some v7 ∧ W.cell? a8 = some v8 ∧ W.cell? a9 = some v9 ∧ W.cell? a10 = some v10) : Below w0.heap.size w0 x ∧ x.cell? a0 = some v0 ∧ x.cell? a1 = some v1 ∧ x.cell? a2 = some v2 ∧ x.cell? a3 = some v3 ∧ x.cell? a4 = some v4 ∧ x.cell? a5 = some v5 ∧ x.cell? a6 = some v6 ∧ x.cell? a7 = some v7 ∧ x.cell? a8 = some v8 ∧ x.cell? a9 = some v9 ∧ x.cell? a10 = some v10 :=
  ⟨bt h.1 hb, later hb h.2.1, later hb h.2.2.1, later hb h.2.2.2.1, later hb h.2.2.2.2.1, later hb h.2.2.2.2.2.1, later hb h.2.2.2.2.2.2.1, later hb h.2.2.2.2.2.2.2.1, later hb h.2.2.2.2.2.2.2.2.1, later hb h.2.2.2.2.2.2.2.2.2.1, later hb h.2.2.2.2.2.2.2.2.2.2.1, later hb h.2.2.2.2.2.2.2.2.2.2.2⟩
set_option maxHeartbeats 4000000 in
theorem fitsP_any (p : Pk) (ps : List Pk) (at_ tu : Int) (v : Value) (R : Nat) (w : World) (hr : RW w R v ps) (hn : ps.length ≤ 1000000) (h : p.Fine) (hk : ∀ q ∈ ps, q.Fine) :
    Calls Tryz.prog 55 #[.agg #[.int .i64 at_, .int .i64 tu, v], .agg #[.int .i64 p.f, .int .i64 p.t, .int .i64 p.tl, .int .i64 p.pr, .int .i64 p.id, .int .i64 p.fr, .bool p.mo, .bool p.dn, .string p.op, .string p.da]] w fun e w' => e = .returned (.bool (fitsL ps p)) ∧ Below w.heap.size w w' := by
  obtain ⟨sa, sc, rfl⟩ := hr.shape
  have h0 := h.f0
  have h1 := h.f1
  have h2 := h.dl
  have h3 := h.ol
  have hX := (At.box w #[.int .i64 at_, .int .i64 tu, .slice sa ps.length sc] 115).later (bel1 _ (.cells #[.int .i64 p.f, .int .i64 p.t, .int .i64 p.tl, .int .i64 p.pr, .int .i64 p.id, .int .i64 p.fr, .bool p.mo, .bool p.dn, .string p.op, .string p.da] 23))
  have hB := At.box2 w (.cells #[.int .i64 at_, .int .i64 tu, .slice sa ps.length sc] 115) #[.int .i64 p.f, .int .i64 p.t, .int .i64 p.tl, .int .i64 p.pr, .int .i64 p.id, .int .i64 p.fr, .bool p.mo, .bool p.dn, .string p.op, .string p.da] 23
  have hl := bt (bel1 w (.cells #[.int .i64 at_, .int .i64 tu, .slice sa ps.length sc] 115)) (bel1 _ (.cells #[.int .i64 p.f, .int .i64 p.t, .int .i64 p.tl, .int .i64 p.pr, .int .i64 p.id, .int .i64 p.fr, .bool p.mo, .bool p.dn, .string p.op, .string p.da] 23))
  have hr' := hr.later hl
  clear hr
  have hE := fun W => end_any p W h
  have w1_ : IntKind.i64.wrap (p.fr * 8 + (p.da.size : Int) + 20) = p.fr * 8 + (p.da.size : Int) + 20 := by rw [IntKind.wrap_i64]; omega
  have w2_ : IntKind.i64.wrap (p.fr * 8 + (p.da.size : Int) + 20 + (p.op.size : Int)) = p.fr * 8 + (p.da.size : Int) + 20 + (p.op.size : Int) := by rw [IntKind.wrap_i64]; omega
  go_enter Tryz.func55, Tryz.ntmps55
  go_upto_region 1 with fail
  generalize (w.alloc (.cells #[.int .i64 at_, .int .i64 tu, .slice sa ps.length sc] 115)).alloc (.cells #[.int .i64 p.f, .int .i64 p.t, .int .i64 p.tl, .int .i64 p.pr, .int .i64 p.id, .int .i64 p.fr, .bool p.mo, .bool p.dn, .string p.op, .string p.da] 23) = W0 at *
  have x2 := (hX.2 2 _ rfl).1
  have hcon : ∀ W, Below W0.heap.size W0 W → Calls Tryz.prog 70 #[.slice sa ps.length sc, .func (.func 73) #[] #[.pointer (some ⟨w.heap.size + 1, 0, none⟩)]] W fun e w' => e = .returned (.bool (ps.any (clashB p))) ∧ Below W.heap.size W w' := fun W hW =>
    cont_fits p ps (w.heap.size + 1) W (.slice sa ps.length sc) R (hr'.later hW) hn (fun W' q hq hb => fits1_any p q _ W' ((hB.later hW).later hb) h (hk q hq))
  obtain ⟨⟨c0, c1, c2, c3, c4, c5, c6, c7, c8, c9⟩, -, -⟩ := hB.ten
  have hx5 : Below W0.heap.size W0 W0 ∧ W0.cell? ⟨w.heap.size + 1, 0, none⟩ = some (.int .i64 p.f) ∧ W0.cell? ⟨w.heap.size + 1, 1, none⟩ = some (.int .i64 p.t) ∧ W0.cell? ⟨w.heap.size + 1, 2, none⟩ = some (.int .i64 p.tl) ∧ W0.cell? ⟨w.heap.size + 1, 3, none⟩ = some (.int .i64 p.pr) ∧ W0.cell? ⟨w.heap.size + 1, 4, none⟩ = some (.int .i64 p.id) ∧ W0.cell? ⟨w.heap.size + 1, 5, none⟩ = some (.int .i64 p.fr) ∧ W0.cell? ⟨w.heap.size + 1, 6, none⟩ = some (.bool p.mo) ∧ W0.cell? ⟨w.heap.size + 1, 7, none⟩ = some (.bool p.dn) ∧ W0.cell? ⟨w.heap.size + 1, 8, none⟩ = some (.string p.op) ∧ W0.cell? ⟨w.heap.size + 1, 9, none⟩ = some (.string p.da) ∧ W0.cell? ⟨w.heap.size, 2, none⟩ = some (.slice sa ps.length sc) := ⟨Below.refl _ _, c0, c1, c2, c3, c4, c5, c6, c7, c8, c9, x2⟩
  clear hX hB c0 c1 c2 c3 c4 c5 c6 c7 c8 c9 x2
  by_cases hg : p.fr * 8 + (p.da.size : Int) + 20 + (p.op.size : Int) ≤ 65535
  · have hg' : ¬ (65535 < p.fr * 8 + (p.da.size : Int) + 20 + (p.op.size : Int)) := by omega
    by_cases hl64 : ps.length < 64
    · have e1 : fitsL ps p = !ps.any (clashB p) := by
        unfold fitsL Pk.en
        rw [decide_eq_true hg, decide_eq_true hl64]; simp
      have E1 : Hid (fitsL ps p = _) := e1
      have hl' : ¬ (64 ≤ (ps.length : Int)) := by omega
      clear e1
      generalize ps.any (clashB p) = r at hcon E1
      refine wp_region_held_drew (S := (fun W => Below W0.heap.size W0 W ∧ W.cell? ⟨w.heap.size + 1, 0, none⟩ = some (.int .i64 p.f) ∧ W.cell? ⟨w.heap.size + 1, 1, none⟩ = some (.int .i64 p.t) ∧ W.cell? ⟨w.heap.size + 1, 2, none⟩ = some (.int .i64 p.tl) ∧ W.cell? ⟨w.heap.size + 1, 3, none⟩ = some (.int .i64 p.pr) ∧ W.cell? ⟨w.heap.size + 1, 4, none⟩ = some (.int .i64 p.id) ∧ W.cell? ⟨w.heap.size + 1, 5, none⟩ = some (.int .i64 p.fr) ∧ W.cell? ⟨w.heap.size + 1, 6, none⟩ = some (.bool p.mo) ∧ W.cell? ⟨w.heap.size + 1, 7, none⟩ = some (.bool p.dn) ∧ W.cell? ⟨w.heap.size + 1, 8, none⟩ = some (.string p.op) ∧ W.cell? ⟨w.heap.size + 1, 9, none⟩ = some (.string p.da) ∧ W.cell? ⟨w.heap.size, 2, none⟩ = some (.slice sa ps.length sc))) (by kernel_rfl) ?_ (fun hHeld => ?_)
      · first | exact ⟨hx5.1.drew, hx5.2.1, hx5.2.2.1, hx5.2.2.2.1, hx5.2.2.2.2.1, hx5.2.2.2.2.2.1, hx5.2.2.2.2.2.2.1, hx5.2.2.2.2.2.2.2.1, hx5.2.2.2.2.2.2.2.2.1, hx5.2.2.2.2.2.2.2.2.2.1, hx5.2.2.2.2.2.2.2.2.2.2.1, hx5.2.2.2.2.2.2.2.2.2.2.2⟩ | assumption
      refine wpAnyH_take (i := 0) (oi := ({ dst := some 5, op := Go.Op.load 23 (Go.Operand.tmp 3), type := 23, pos := "frag.go:139", after := #[], guard := none } : Go.Oper)) (v := .agg #[.int .i64 p.f, .int .i64 p.t, .int .i64 p.tl, .int .i64 p.pr, .int .i64 p.id, .int .i64 p.fr, .bool p.mo, .bool p.dn, .string p.op, .string p.da]) rfl (by kernel_rfl) (by kernel_rfl) (by kernel_rfl) (fun _ _ _ h => h) (Or.inl ⟨by rfl, ?_⟩) (by assumption) ?_
      · intro wx hSw
        try dsimp only at hSw
        go_simp
        try with_reducible rfl
      try simp only [Act.put, List.setIfInBounds_toArray, List.set_cons_zero, List.set_cons_succ]
      refine wpAnyH_take (i := 3) (oi := ({ dst := some 8, op := Go.Op.fieldAddr 23 (Go.Operand.tmp 3) 8, type := 0, pos := "frag.go:139", after := #[], guard := none } : Go.Oper)) (v := .pointer (some ⟨w.heap.size + 1, 8, none⟩)) rfl (by kernel_rfl) (by kernel_rfl) (by kernel_rfl) (fun _ _ _ h => h) (Or.inl ⟨by rfl, ?_⟩) (by assumption) ?_
      · intro wx hSw
        try dsimp only at hSw
        go_simp
        try with_reducible rfl
      try simp only [Act.put, List.setIfInBounds_toArray, List.set_cons_zero, List.set_cons_succ]
      refine wpAnyH_take (i := 4) (oi := ({ dst := some 9, op := Go.Op.load 9 (Go.Operand.tmp 8), type := 9, pos := "frag.go:139", after := #[{ on := 3, ground := Go.Ground.data }], guard := none } : Go.Oper)) (v := .string p.op) rfl (by kernel_rfl) (by kernel_rfl) (by kernel_rfl) (fun _ _ _ h => h) (Or.inl ⟨by rfl, ?_⟩) (by assumption) ?_
      · intro wx hSw
        try dsimp only at hSw
        go_simp
        try with_reducible rfl
      try simp only [Act.put, List.setIfInBounds_toArray, List.set_cons_zero, List.set_cons_succ]
      refine wpAnyH_take (i := 5) (oi := ({ dst := some 10, op := Go.Op.call { callee := Go.Callee.builtin Go.Builtin.len, args := #[Go.Operand.tmp 9], argTypes := #[9] }, type := 3, pos := "frag.go:139", after := #[{ on := 4, ground := Go.Ground.data }], guard := none } : Go.Oper)) (v := .int .i64 (p.op.size : Int)) rfl (by kernel_rfl) (by kernel_rfl) (by kernel_rfl) (fun _ _ _ h => h) (Or.inl ⟨by rfl, ?_⟩) (by assumption) ?_
      · intro wx hSw
        try dsimp only at hSw
        go_simp
        try with_reducible rfl
      try simp only [Act.put, List.setIfInBounds_toArray, List.set_cons_zero, List.set_cons_succ]
      refine wpAnyH_ready (rs := [1]) (by kernel_rfl) (by simp) ?_
      refine AllReadyH.cons (o := ({ dst := some 6, op := Go.Op.call { callee := Go.Callee.value (Go.Operand.func 72), args := #[Go.Operand.tmp 5], argTypes := #[23] }, type := 3, pos := "frag.go:139", after := #[{ on := 0, ground := Go.Ground.data }], guard := none } : Go.Oper)) rfl (fun K hK => ?_) AllReadyH.nil
      go_simp
      go_at_call 72
      refine (hE _).mono ?_
      rintro e w1 ⟨rfl, hb⟩
      first
        | refine hK.out _ _ ?_ (fun hHeld => ?_)
        | (go_wp2_with fail; refine hK.out _ _ ?_ (fun hHeld => ?_))
      · try dsimp only
        (refine keep13 hb ?_; assumption)
      clear hK K
      try simp only [Act.put, List.setIfInBounds_toArray, List.set_cons_zero, List.set_cons_succ]
      refine wpAnyH_take (i := 2) (oi := ({ dst := some 7, op := Go.Op.binOp Go.BinOp.add 3 (Go.Operand.tmp 6) (Go.Operand.const (Go.Value.int Go.IntKind.i64 20)) 3, type := 3, pos := "frag.go:139", after := #[{ on := 1, ground := Go.Ground.data }], guard := none } : Go.Oper)) (v := .int .i64 (p.fr * 8 + (p.da.size : Int) + 20)) rfl (by kernel_rfl) (by kernel_rfl) (by kernel_rfl) (fun _ _ _ h => h) (Or.inl ⟨by rfl, ?_⟩) (by assumption) ?_
      · intro wx hSw
        try dsimp only at hSw
        go_simp
        try with_reducible rfl
      try simp only [Act.put, List.setIfInBounds_toArray, List.set_cons_zero, List.set_cons_succ]
      refine wpAnyH_take (i := 6) (oi := ({ dst := some 11, op := Go.Op.binOp Go.BinOp.add 3 (Go.Operand.tmp 7) (Go.Operand.tmp 10) 3, type := 3, pos := "frag.go:139", after := #[{ on := 2, ground := Go.Ground.data }, { on := 5, ground := Go.Ground.data }], guard := none } : Go.Oper)) (v := .int .i64 (p.fr * 8 + (p.da.size : Int) + 20 + (p.op.size : Int))) rfl (by kernel_rfl) (by kernel_rfl) (by kernel_rfl) (fun _ _ _ h => h) (Or.inl ⟨by rfl, ?_⟩) (by assumption) ?_
      · intro wx hSw
        try dsimp only at hSw
        go_simp
        try with_reducible rfl
      try simp only [Act.put, List.setIfInBounds_toArray, List.set_cons_zero, List.set_cons_succ]
      refine wpAnyH_take (i := 7) (oi := ({ dst := some 12, op := Go.Op.binOp Go.BinOp.gtr 3 (Go.Operand.tmp 11) (Go.Operand.const (Go.Value.int Go.IntKind.i64 65535)) 3, type := 4, pos := "frag.go:139", after := #[{ on := 6, ground := Go.Ground.data }], guard := none } : Go.Oper)) (v := .bool false) rfl (by kernel_rfl) (by kernel_rfl) (by kernel_rfl) (fun _ _ _ h => h) (Or.inl ⟨by rfl, ?_⟩) (by assumption) ?_
      · intro wx hSw
        try dsimp only at hSw
        go_simp
        try with_reducible rfl
      try simp only [Act.put, List.setIfInBounds_toArray, List.set_cons_zero, List.set_cons_succ]
      refine wpAnyH_take (i := 8) (oi := ({ dst := some 13, op := Go.Op.move (Go.Operand.tmp 12), type := 4, pos := "frag.go:139", after := #[{ on := 7, ground := Go.Ground.data }, { on := 1, ground := Go.Ground.chain }], guard := none } : Go.Oper)) (v := .bool false) rfl (by kernel_rfl) (by kernel_rfl) (by kernel_rfl) (fun _ _ _ h => h) (Or.inl ⟨by rfl, ?_⟩) (by assumption) ?_
      · intro wx hSw
        try dsimp only at hSw
        go_simp
        try with_reducible rfl
      try simp only [Act.put, List.setIfInBounds_toArray, List.set_cons_zero, List.set_cons_succ]
      refine wpAnyH_take (i := 9) (oi := ({ dst := some 14, op := Go.Op.fieldAddr 115 (Go.Operand.tmp 2) 2, type := 0, pos := "frag.go:139", after := #[{ on := 8, ground := Go.Ground.guard }], guard := some (8, false) } : Go.Oper)) (v := .pointer (some ⟨w.heap.size, 2, none⟩)) rfl (by kernel_rfl) (by kernel_rfl) (by kernel_rfl) (fun _ _ _ h => h) (Or.inl ⟨by rfl, ?_⟩) (by assumption) ?_
      · intro wx hSw
        try dsimp only at hSw
        go_simp
        try with_reducible rfl
      try simp only [Act.put, List.setIfInBounds_toArray, List.set_cons_zero, List.set_cons_succ]
      refine wpAnyH_take (i := 10) (oi := ({ dst := some 15, op := Go.Op.load 26 (Go.Operand.tmp 14), type := 26, pos := "frag.go:139", after := #[{ on := 9, ground := Go.Ground.data }, { on := 8, ground := Go.Ground.guard }], guard := some (8, false) } : Go.Oper)) (v := .slice sa ps.length sc) rfl (by kernel_rfl) (by kernel_rfl) (by kernel_rfl) (fun _ _ _ h => h) (Or.inl ⟨by rfl, ?_⟩) (by assumption) ?_
      · intro wx hSw
        try dsimp only at hSw
        go_simp
        try with_reducible rfl
      try simp only [Act.put, List.setIfInBounds_toArray, List.set_cons_zero, List.set_cons_succ]
      refine wpAnyH_take (i := 11) (oi := ({ dst := some 16, op := Go.Op.call { callee := Go.Callee.builtin Go.Builtin.len, args := #[Go.Operand.tmp 15], argTypes := #[26] }, type := 3, pos := "frag.go:139", after := #[{ on := 10, ground := Go.Ground.data }, { on := 8, ground := Go.Ground.guard }], guard := some (8, false) } : Go.Oper)) (v := .int .i64 (ps.length : Int)) rfl (by kernel_rfl) (by kernel_rfl) (by kernel_rfl) (fun _ _ _ h => h) (Or.inl ⟨by rfl, ?_⟩) (by assumption) ?_
      · intro wx hSw
        try dsimp only at hSw
        go_simp
        try with_reducible rfl
      try simp only [Act.put, List.setIfInBounds_toArray, List.set_cons_zero, List.set_cons_succ]
      refine wpAnyH_take (i := 12) (oi := ({ dst := some 17, op := Go.Op.binOp Go.BinOp.geq 3 (Go.Operand.tmp 16) (Go.Operand.const (Go.Value.int Go.IntKind.i64 64)) 3, type := 4, pos := "frag.go:139", after := #[{ on := 11, ground := Go.Ground.data }, { on := 8, ground := Go.Ground.guard }], guard := some (8, false) } : Go.Oper)) (v := .bool false) rfl (by kernel_rfl) (by kernel_rfl) (by kernel_rfl) (fun _ _ _ h => h) (Or.inl ⟨by rfl, ?_⟩) (by assumption) ?_
      · intro wx hSw
        try dsimp only at hSw
        go_simp
        try with_reducible rfl
      try simp only [Act.put, List.setIfInBounds_toArray, List.set_cons_zero, List.set_cons_succ]
      refine wpAnyH_take (i := 13) (oi := ({ dst := some 18, op := Go.Op.pick (Go.Operand.tmp 13) (Go.Operand.const (Go.Value.bool true)) (Go.Operand.tmp 17), type := 4, pos := "frag.go:139", after := #[{ on := 8, ground := Go.Ground.data }, { on := 12, ground := Go.Ground.data }], guard := none } : Go.Oper)) (v := .bool false) rfl (by kernel_rfl) (by kernel_rfl) (by kernel_rfl) (fun _ _ _ h => h) (Or.inl ⟨by rfl, ?_⟩) (by assumption) ?_
      · intro wx hSw
        try dsimp only at hSw
        go_simp
        try with_reducible rfl
      try simp only [Act.put, List.setIfInBounds_toArray, List.set_cons_zero, List.set_cons_succ]
      refine wpAnyH_done (by kernel_rfl) ?_ _
      have x2 := hHeld.2.2.2.2.2.2.2.2.2.2.2
      have b1 := hHeld.1
      have hcon' := hcon _ b1
      clear hE hcon hk hr' hHeld
      go_wp2_with fail
      refine hcon'.mono ?_
      rintro e w3 ⟨rfl, l1⟩
      go_wp2
      go_ret
      exact ⟨by rw [E1.out]; rfl, bt (bt hl b1) l1⟩
    · have e1 : fitsL ps p = false := by
        unfold fitsL
        rw [decide_eq_false hl64]; simp
      have E1 : Hid (fitsL ps p = _) := e1
      have hl' : 64 ≤ (ps.length : Int) := by omega
      clear e1 hcon
      refine wp_region_held_drew (S := (fun W => Below W0.heap.size W0 W ∧ W.cell? ⟨w.heap.size + 1, 0, none⟩ = some (.int .i64 p.f) ∧ W.cell? ⟨w.heap.size + 1, 1, none⟩ = some (.int .i64 p.t) ∧ W.cell? ⟨w.heap.size + 1, 2, none⟩ = some (.int .i64 p.tl) ∧ W.cell? ⟨w.heap.size + 1, 3, none⟩ = some (.int .i64 p.pr) ∧ W.cell? ⟨w.heap.size + 1, 4, none⟩ = some (.int .i64 p.id) ∧ W.cell? ⟨w.heap.size + 1, 5, none⟩ = some (.int .i64 p.fr) ∧ W.cell? ⟨w.heap.size + 1, 6, none⟩ = some (.bool p.mo) ∧ W.cell? ⟨w.heap.size + 1, 7, none⟩ = some (.bool p.dn) ∧ W.cell? ⟨w.heap.size + 1, 8, none⟩ = some (.string p.op) ∧ W.cell? ⟨w.heap.size + 1, 9, none⟩ = some (.string p.da) ∧ W.cell? ⟨w.heap.size, 2, none⟩ = some (.slice sa ps.length sc))) (by kernel_rfl) ?_ (fun hHeld => ?_)
      · first | exact ⟨hx5.1.drew, hx5.2.1, hx5.2.2.1, hx5.2.2.2.1, hx5.2.2.2.2.1, hx5.2.2.2.2.2.1, hx5.2.2.2.2.2.2.1, hx5.2.2.2.2.2.2.2.1, hx5.2.2.2.2.2.2.2.2.1, hx5.2.2.2.2.2.2.2.2.2.1, hx5.2.2.2.2.2.2.2.2.2.2.1, hx5.2.2.2.2.2.2.2.2.2.2.2⟩ | assumption
      refine wpAnyH_take (i := 0) (oi := ({ dst := some 5, op := Go.Op.load 23 (Go.Operand.tmp 3), type := 23, pos := "frag.go:139", after := #[], guard := none } : Go.Oper)) (v := .agg #[.int .i64 p.f, .int .i64 p.t, .int .i64 p.tl, .int .i64 p.pr, .int .i64 p.id, .int .i64 p.fr, .bool p.mo, .bool p.dn, .string p.op, .string p.da]) rfl (by kernel_rfl) (by kernel_rfl) (by kernel_rfl) (fun _ _ _ h => h) (Or.inl ⟨by rfl, ?_⟩) (by assumption) ?_
      · intro wx hSw
        try dsimp only at hSw
        go_simp
        try with_reducible rfl
      try simp only [Act.put, List.setIfInBounds_toArray, List.set_cons_zero, List.set_cons_succ]
      refine wpAnyH_take (i := 3) (oi := ({ dst := some 8, op := Go.Op.fieldAddr 23 (Go.Operand.tmp 3) 8, type := 0, pos := "frag.go:139", after := #[], guard := none } : Go.Oper)) (v := .pointer (some ⟨w.heap.size + 1, 8, none⟩)) rfl (by kernel_rfl) (by kernel_rfl) (by kernel_rfl) (fun _ _ _ h => h) (Or.inl ⟨by rfl, ?_⟩) (by assumption) ?_
      · intro wx hSw
        try dsimp only at hSw
        go_simp
        try with_reducible rfl
      try simp only [Act.put, List.setIfInBounds_toArray, List.set_cons_zero, List.set_cons_succ]
      refine wpAnyH_take (i := 4) (oi := ({ dst := some 9, op := Go.Op.load 9 (Go.Operand.tmp 8), type := 9, pos := "frag.go:139", after := #[{ on := 3, ground := Go.Ground.data }], guard := none } : Go.Oper)) (v := .string p.op) rfl (by kernel_rfl) (by kernel_rfl) (by kernel_rfl) (fun _ _ _ h => h) (Or.inl ⟨by rfl, ?_⟩) (by assumption) ?_
      · intro wx hSw
        try dsimp only at hSw
        go_simp
        try with_reducible rfl
      try simp only [Act.put, List.setIfInBounds_toArray, List.set_cons_zero, List.set_cons_succ]
      refine wpAnyH_take (i := 5) (oi := ({ dst := some 10, op := Go.Op.call { callee := Go.Callee.builtin Go.Builtin.len, args := #[Go.Operand.tmp 9], argTypes := #[9] }, type := 3, pos := "frag.go:139", after := #[{ on := 4, ground := Go.Ground.data }], guard := none } : Go.Oper)) (v := .int .i64 (p.op.size : Int)) rfl (by kernel_rfl) (by kernel_rfl) (by kernel_rfl) (fun _ _ _ h => h) (Or.inl ⟨by rfl, ?_⟩) (by assumption) ?_
      · intro wx hSw
        try dsimp only at hSw
        go_simp
        try with_reducible rfl
      try simp only [Act.put, List.setIfInBounds_toArray, List.set_cons_zero, List.set_cons_succ]
      refine wpAnyH_ready (rs := [1]) (by kernel_rfl) (by simp) ?_
      refine AllReadyH.cons (o := ({ dst := some 6, op := Go.Op.call { callee := Go.Callee.value (Go.Operand.func 72), args := #[Go.Operand.tmp 5], argTypes := #[23] }, type := 3, pos := "frag.go:139", after := #[{ on := 0, ground := Go.Ground.data }], guard := none } : Go.Oper)) rfl (fun K hK => ?_) AllReadyH.nil
      go_simp
      go_at_call 72
      refine (hE _).mono ?_
      rintro e w1 ⟨rfl, hb⟩
      first
        | refine hK.out _ _ ?_ (fun hHeld => ?_)
        | (go_wp2_with fail; refine hK.out _ _ ?_ (fun hHeld => ?_))
      · try dsimp only
        (refine keep13 hb ?_; assumption)
      clear hK K
      try simp only [Act.put, List.setIfInBounds_toArray, List.set_cons_zero, List.set_cons_succ]
      refine wpAnyH_take (i := 2) (oi := ({ dst := some 7, op := Go.Op.binOp Go.BinOp.add 3 (Go.Operand.tmp 6) (Go.Operand.const (Go.Value.int Go.IntKind.i64 20)) 3, type := 3, pos := "frag.go:139", after := #[{ on := 1, ground := Go.Ground.data }], guard := none } : Go.Oper)) (v := .int .i64 (p.fr * 8 + (p.da.size : Int) + 20)) rfl (by kernel_rfl) (by kernel_rfl) (by kernel_rfl) (fun _ _ _ h => h) (Or.inl ⟨by rfl, ?_⟩) (by assumption) ?_
      · intro wx hSw
        try dsimp only at hSw
        go_simp
        try with_reducible rfl
      try simp only [Act.put, List.setIfInBounds_toArray, List.set_cons_zero, List.set_cons_succ]
      refine wpAnyH_take (i := 6) (oi := ({ dst := some 11, op := Go.Op.binOp Go.BinOp.add 3 (Go.Operand.tmp 7) (Go.Operand.tmp 10) 3, type := 3, pos := "frag.go:139", after := #[{ on := 2, ground := Go.Ground.data }, { on := 5, ground := Go.Ground.data }], guard := none } : Go.Oper)) (v := .int .i64 (p.fr * 8 + (p.da.size : Int) + 20 + (p.op.size : Int))) rfl (by kernel_rfl) (by kernel_rfl) (by kernel_rfl) (fun _ _ _ h => h) (Or.inl ⟨by rfl, ?_⟩) (by assumption) ?_
      · intro wx hSw
        try dsimp only at hSw
        go_simp
        try with_reducible rfl
      try simp only [Act.put, List.setIfInBounds_toArray, List.set_cons_zero, List.set_cons_succ]
      refine wpAnyH_take (i := 7) (oi := ({ dst := some 12, op := Go.Op.binOp Go.BinOp.gtr 3 (Go.Operand.tmp 11) (Go.Operand.const (Go.Value.int Go.IntKind.i64 65535)) 3, type := 4, pos := "frag.go:139", after := #[{ on := 6, ground := Go.Ground.data }], guard := none } : Go.Oper)) (v := .bool false) rfl (by kernel_rfl) (by kernel_rfl) (by kernel_rfl) (fun _ _ _ h => h) (Or.inl ⟨by rfl, ?_⟩) (by assumption) ?_
      · intro wx hSw
        try dsimp only at hSw
        go_simp
        try with_reducible rfl
      try simp only [Act.put, List.setIfInBounds_toArray, List.set_cons_zero, List.set_cons_succ]
      refine wpAnyH_take (i := 8) (oi := ({ dst := some 13, op := Go.Op.move (Go.Operand.tmp 12), type := 4, pos := "frag.go:139", after := #[{ on := 7, ground := Go.Ground.data }, { on := 1, ground := Go.Ground.chain }], guard := none } : Go.Oper)) (v := .bool false) rfl (by kernel_rfl) (by kernel_rfl) (by kernel_rfl) (fun _ _ _ h => h) (Or.inl ⟨by rfl, ?_⟩) (by assumption) ?_
      · intro wx hSw
        try dsimp only at hSw
        go_simp
        try with_reducible rfl
      try simp only [Act.put, List.setIfInBounds_toArray, List.set_cons_zero, List.set_cons_succ]
      refine wpAnyH_take (i := 9) (oi := ({ dst := some 14, op := Go.Op.fieldAddr 115 (Go.Operand.tmp 2) 2, type := 0, pos := "frag.go:139", after := #[{ on := 8, ground := Go.Ground.guard }], guard := some (8, false) } : Go.Oper)) (v := .pointer (some ⟨w.heap.size, 2, none⟩)) rfl (by kernel_rfl) (by kernel_rfl) (by kernel_rfl) (fun _ _ _ h => h) (Or.inl ⟨by rfl, ?_⟩) (by assumption) ?_
      · intro wx hSw
        try dsimp only at hSw
        go_simp
        try with_reducible rfl
      try simp only [Act.put, List.setIfInBounds_toArray, List.set_cons_zero, List.set_cons_succ]
      refine wpAnyH_take (i := 10) (oi := ({ dst := some 15, op := Go.Op.load 26 (Go.Operand.tmp 14), type := 26, pos := "frag.go:139", after := #[{ on := 9, ground := Go.Ground.data }, { on := 8, ground := Go.Ground.guard }], guard := some (8, false) } : Go.Oper)) (v := .slice sa ps.length sc) rfl (by kernel_rfl) (by kernel_rfl) (by kernel_rfl) (fun _ _ _ h => h) (Or.inl ⟨by rfl, ?_⟩) (by assumption) ?_
      · intro wx hSw
        try dsimp only at hSw
        go_simp
        try with_reducible rfl
      try simp only [Act.put, List.setIfInBounds_toArray, List.set_cons_zero, List.set_cons_succ]
      refine wpAnyH_take (i := 11) (oi := ({ dst := some 16, op := Go.Op.call { callee := Go.Callee.builtin Go.Builtin.len, args := #[Go.Operand.tmp 15], argTypes := #[26] }, type := 3, pos := "frag.go:139", after := #[{ on := 10, ground := Go.Ground.data }, { on := 8, ground := Go.Ground.guard }], guard := some (8, false) } : Go.Oper)) (v := .int .i64 (ps.length : Int)) rfl (by kernel_rfl) (by kernel_rfl) (by kernel_rfl) (fun _ _ _ h => h) (Or.inl ⟨by rfl, ?_⟩) (by assumption) ?_
      · intro wx hSw
        try dsimp only at hSw
        go_simp
        try with_reducible rfl
      try simp only [Act.put, List.setIfInBounds_toArray, List.set_cons_zero, List.set_cons_succ]
      refine wpAnyH_take (i := 12) (oi := ({ dst := some 17, op := Go.Op.binOp Go.BinOp.geq 3 (Go.Operand.tmp 16) (Go.Operand.const (Go.Value.int Go.IntKind.i64 64)) 3, type := 4, pos := "frag.go:139", after := #[{ on := 11, ground := Go.Ground.data }, { on := 8, ground := Go.Ground.guard }], guard := some (8, false) } : Go.Oper)) (v := .bool true) rfl (by kernel_rfl) (by kernel_rfl) (by kernel_rfl) (fun _ _ _ h => h) (Or.inl ⟨by rfl, ?_⟩) (by assumption) ?_
      · intro wx hSw
        try dsimp only at hSw
        go_simp
        try with_reducible rfl
      try simp only [Act.put, List.setIfInBounds_toArray, List.set_cons_zero, List.set_cons_succ]
      refine wpAnyH_take (i := 13) (oi := ({ dst := some 18, op := Go.Op.pick (Go.Operand.tmp 13) (Go.Operand.const (Go.Value.bool true)) (Go.Operand.tmp 17), type := 4, pos := "frag.go:139", after := #[{ on := 8, ground := Go.Ground.data }, { on := 12, ground := Go.Ground.data }], guard := none } : Go.Oper)) (v := .bool true) rfl (by kernel_rfl) (by kernel_rfl) (by kernel_rfl) (fun _ _ _ h => h) (Or.inl ⟨by rfl, ?_⟩) (by assumption) ?_
      · intro wx hSw
        try dsimp only at hSw
        go_simp
        try with_reducible rfl
      try simp only [Act.put, List.setIfInBounds_toArray, List.set_cons_zero, List.set_cons_succ]
      refine wpAnyH_done (by kernel_rfl) ?_ _
      have b1 := hHeld.1
      clear hE hk hr' hHeld
      go_wp2
      go_ret
      exact ⟨by rw [E1.out]; rfl, bt hl b1⟩
  · have e1 : fitsL ps p = false := by
      unfold fitsL Pk.en
      rw [decide_eq_false hg]; simp
    have E1 : Hid (fitsL ps p = _) := e1
    have hg' : 65535 < p.fr * 8 + (p.da.size : Int) + 20 + (p.op.size : Int) := by omega
    clear e1 hcon
    refine wp_region_held_drew (S := (fun W => Below W0.heap.size W0 W ∧ W.cell? ⟨w.heap.size + 1, 0, none⟩ = some (.int .i64 p.f) ∧ W.cell? ⟨w.heap.size + 1, 1, none⟩ = some (.int .i64 p.t) ∧ W.cell? ⟨w.heap.size + 1, 2, none⟩ = some (.int .i64 p.tl) ∧ W.cell? ⟨w.heap.size + 1, 3, none⟩ = some (.int .i64 p.pr) ∧ W.cell? ⟨w.heap.size + 1, 4, none⟩ = some (.int .i64 p.id) ∧ W.cell? ⟨w.heap.size + 1, 5, none⟩ = some (.int .i64 p.fr) ∧ W.cell? ⟨w.heap.size + 1, 6, none⟩ = some (.bool p.mo) ∧ W.cell? ⟨w.heap.size + 1, 7, none⟩ = some (.bool p.dn) ∧ W.cell? ⟨w.heap.size + 1, 8, none⟩ = some (.string p.op) ∧ W.cell? ⟨w.heap.size + 1, 9, none⟩ = some (.string p.da) ∧ W.cell? ⟨w.heap.size, 2, none⟩ = some (.slice sa ps.length sc))) (by kernel_rfl) ?_ (fun hHeld => ?_)
    · first | exact ⟨hx5.1.drew, hx5.2.1, hx5.2.2.1, hx5.2.2.2.1, hx5.2.2.2.2.1, hx5.2.2.2.2.2.1, hx5.2.2.2.2.2.2.1, hx5.2.2.2.2.2.2.2.1, hx5.2.2.2.2.2.2.2.2.1, hx5.2.2.2.2.2.2.2.2.2.1, hx5.2.2.2.2.2.2.2.2.2.2.1, hx5.2.2.2.2.2.2.2.2.2.2.2⟩ | assumption
    refine wpAnyH_take (i := 0) (oi := ({ dst := some 5, op := Go.Op.load 23 (Go.Operand.tmp 3), type := 23, pos := "frag.go:139", after := #[], guard := none } : Go.Oper)) (v := .agg #[.int .i64 p.f, .int .i64 p.t, .int .i64 p.tl, .int .i64 p.pr, .int .i64 p.id, .int .i64 p.fr, .bool p.mo, .bool p.dn, .string p.op, .string p.da]) rfl (by kernel_rfl) (by kernel_rfl) (by kernel_rfl) (fun _ _ _ h => h) (Or.inl ⟨by rfl, ?_⟩) (by assumption) ?_
    · intro wx hSw
      try dsimp only at hSw
      go_simp
      try with_reducible rfl
    try simp only [Act.put, List.setIfInBounds_toArray, List.set_cons_zero, List.set_cons_succ]
    refine wpAnyH_take (i := 3) (oi := ({ dst := some 8, op := Go.Op.fieldAddr 23 (Go.Operand.tmp 3) 8, type := 0, pos := "frag.go:139", after := #[], guard := none } : Go.Oper)) (v := .pointer (some ⟨w.heap.size + 1, 8, none⟩)) rfl (by kernel_rfl) (by kernel_rfl) (by kernel_rfl) (fun _ _ _ h => h) (Or.inl ⟨by rfl, ?_⟩) (by assumption) ?_
    · intro wx hSw
      try dsimp only at hSw
      go_simp
      try with_reducible rfl
    try simp only [Act.put, List.setIfInBounds_toArray, List.set_cons_zero, List.set_cons_succ]
    refine wpAnyH_take (i := 4) (oi := ({ dst := some 9, op := Go.Op.load 9 (Go.Operand.tmp 8), type := 9, pos := "frag.go:139", after := #[{ on := 3, ground := Go.Ground.data }], guard := none } : Go.Oper)) (v := .string p.op) rfl (by kernel_rfl) (by kernel_rfl) (by kernel_rfl) (fun _ _ _ h => h) (Or.inl ⟨by rfl, ?_⟩) (by assumption) ?_
    · intro wx hSw
      try dsimp only at hSw
      go_simp
      try with_reducible rfl
    try simp only [Act.put, List.setIfInBounds_toArray, List.set_cons_zero, List.set_cons_succ]
    refine wpAnyH_take (i := 5) (oi := ({ dst := some 10, op := Go.Op.call { callee := Go.Callee.builtin Go.Builtin.len, args := #[Go.Operand.tmp 9], argTypes := #[9] }, type := 3, pos := "frag.go:139", after := #[{ on := 4, ground := Go.Ground.data }], guard := none } : Go.Oper)) (v := .int .i64 (p.op.size : Int)) rfl (by kernel_rfl) (by kernel_rfl) (by kernel_rfl) (fun _ _ _ h => h) (Or.inl ⟨by rfl, ?_⟩) (by assumption) ?_
    · intro wx hSw
      try dsimp only at hSw
      go_simp
      try with_reducible rfl
    try simp only [Act.put, List.setIfInBounds_toArray, List.set_cons_zero, List.set_cons_succ]
    refine wpAnyH_ready (rs := [1]) (by kernel_rfl) (by simp) ?_
    refine AllReadyH.cons (o := ({ dst := some 6, op := Go.Op.call { callee := Go.Callee.value (Go.Operand.func 72), args := #[Go.Operand.tmp 5], argTypes := #[23] }, type := 3, pos := "frag.go:139", after := #[{ on := 0, ground := Go.Ground.data }], guard := none } : Go.Oper)) rfl (fun K hK => ?_) AllReadyH.nil
    go_simp
    go_at_call 72
    refine (hE _).mono ?_
    rintro e w1 ⟨rfl, hb⟩
    first
      | refine hK.out _ _ ?_ (fun hHeld => ?_)
      | (go_wp2_with fail; refine hK.out _ _ ?_ (fun hHeld => ?_))
    · try dsimp only
      (refine keep13 hb ?_; assumption)
    clear hK K
    try simp only [Act.put, List.setIfInBounds_toArray, List.set_cons_zero, List.set_cons_succ]
    refine wpAnyH_take (i := 2) (oi := ({ dst := some 7, op := Go.Op.binOp Go.BinOp.add 3 (Go.Operand.tmp 6) (Go.Operand.const (Go.Value.int Go.IntKind.i64 20)) 3, type := 3, pos := "frag.go:139", after := #[{ on := 1, ground := Go.Ground.data }], guard := none } : Go.Oper)) (v := .int .i64 (p.fr * 8 + (p.da.size : Int) + 20)) rfl (by kernel_rfl) (by kernel_rfl) (by kernel_rfl) (fun _ _ _ h => h) (Or.inl ⟨by rfl, ?_⟩) (by assumption) ?_
    · intro wx hSw
      try dsimp only at hSw
      go_simp
      try with_reducible rfl
    try simp only [Act.put, List.setIfInBounds_toArray, List.set_cons_zero, List.set_cons_succ]
    refine wpAnyH_take (i := 6) (oi := ({ dst := some 11, op := Go.Op.binOp Go.BinOp.add 3 (Go.Operand.tmp 7) (Go.Operand.tmp 10) 3, type := 3, pos := "frag.go:139", after := #[{ on := 2, ground := Go.Ground.data }, { on := 5, ground := Go.Ground.data }], guard := none } : Go.Oper)) (v := .int .i64 (p.fr * 8 + (p.da.size : Int) + 20 + (p.op.size : Int))) rfl (by kernel_rfl) (by kernel_rfl) (by kernel_rfl) (fun _ _ _ h => h) (Or.inl ⟨by rfl, ?_⟩) (by assumption) ?_
    · intro wx hSw
      try dsimp only at hSw
      go_simp
      try with_reducible rfl
    try simp only [Act.put, List.setIfInBounds_toArray, List.set_cons_zero, List.set_cons_succ]
    refine wpAnyH_take (i := 7) (oi := ({ dst := some 12, op := Go.Op.binOp Go.BinOp.gtr 3 (Go.Operand.tmp 11) (Go.Operand.const (Go.Value.int Go.IntKind.i64 65535)) 3, type := 4, pos := "frag.go:139", after := #[{ on := 6, ground := Go.Ground.data }], guard := none } : Go.Oper)) (v := .bool true) rfl (by kernel_rfl) (by kernel_rfl) (by kernel_rfl) (fun _ _ _ h => h) (Or.inl ⟨by rfl, ?_⟩) (by assumption) ?_
    · intro wx hSw
      try dsimp only at hSw
      go_simp
      try with_reducible rfl
    try simp only [Act.put, List.setIfInBounds_toArray, List.set_cons_zero, List.set_cons_succ]
    refine wpAnyH_take (i := 8) (oi := ({ dst := some 13, op := Go.Op.move (Go.Operand.tmp 12), type := 4, pos := "frag.go:139", after := #[{ on := 7, ground := Go.Ground.data }, { on := 1, ground := Go.Ground.chain }], guard := none } : Go.Oper)) (v := .bool true) rfl (by kernel_rfl) (by kernel_rfl) (by kernel_rfl) (fun _ _ _ h => h) (Or.inl ⟨by rfl, ?_⟩) (by assumption) ?_
    · intro wx hSw
      try dsimp only at hSw
      go_simp
      try with_reducible rfl
    try simp only [Act.put, List.setIfInBounds_toArray, List.set_cons_zero, List.set_cons_succ]
    refine wpAnyH_take (i := 9) (oi := ({ dst := some 14, op := Go.Op.fieldAddr 115 (Go.Operand.tmp 2) 2, type := 0, pos := "frag.go:139", after := #[{ on := 8, ground := Go.Ground.guard }], guard := some (8, false) } : Go.Oper)) (v := undef) rfl (by kernel_rfl) (by kernel_rfl) (by kernel_rfl) (fun _ _ _ h => h) (Or.inr ⟨by rfl, rfl⟩) (by assumption) ?_
    try simp only [Act.put, List.setIfInBounds_toArray, List.set_cons_zero, List.set_cons_succ]
    refine wpAnyH_take (i := 10) (oi := ({ dst := some 15, op := Go.Op.load 26 (Go.Operand.tmp 14), type := 26, pos := "frag.go:139", after := #[{ on := 9, ground := Go.Ground.data }, { on := 8, ground := Go.Ground.guard }], guard := some (8, false) } : Go.Oper)) (v := undef) rfl (by kernel_rfl) (by kernel_rfl) (by kernel_rfl) (fun _ _ _ h => h) (Or.inr ⟨by rfl, rfl⟩) (by assumption) ?_
    try simp only [Act.put, List.setIfInBounds_toArray, List.set_cons_zero, List.set_cons_succ]
    refine wpAnyH_take (i := 11) (oi := ({ dst := some 16, op := Go.Op.call { callee := Go.Callee.builtin Go.Builtin.len, args := #[Go.Operand.tmp 15], argTypes := #[26] }, type := 3, pos := "frag.go:139", after := #[{ on := 10, ground := Go.Ground.data }, { on := 8, ground := Go.Ground.guard }], guard := some (8, false) } : Go.Oper)) (v := undef) rfl (by kernel_rfl) (by kernel_rfl) (by kernel_rfl) (fun _ _ _ h => h) (Or.inr ⟨by rfl, rfl⟩) (by assumption) ?_
    try simp only [Act.put, List.setIfInBounds_toArray, List.set_cons_zero, List.set_cons_succ]
    refine wpAnyH_take (i := 12) (oi := ({ dst := some 17, op := Go.Op.binOp Go.BinOp.geq 3 (Go.Operand.tmp 16) (Go.Operand.const (Go.Value.int Go.IntKind.i64 64)) 3, type := 4, pos := "frag.go:139", after := #[{ on := 11, ground := Go.Ground.data }, { on := 8, ground := Go.Ground.guard }], guard := some (8, false) } : Go.Oper)) (v := undef) rfl (by kernel_rfl) (by kernel_rfl) (by kernel_rfl) (fun _ _ _ h => h) (Or.inr ⟨by rfl, rfl⟩) (by assumption) ?_
    try simp only [Act.put, List.setIfInBounds_toArray, List.set_cons_zero, List.set_cons_succ]
    refine wpAnyH_take (i := 13) (oi := ({ dst := some 18, op := Go.Op.pick (Go.Operand.tmp 13) (Go.Operand.const (Go.Value.bool true)) (Go.Operand.tmp 17), type := 4, pos := "frag.go:139", after := #[{ on := 8, ground := Go.Ground.data }, { on := 12, ground := Go.Ground.data }], guard := none } : Go.Oper)) (v := .bool true) rfl (by kernel_rfl) (by kernel_rfl) (by kernel_rfl) (fun _ _ _ h => h) (Or.inl ⟨by rfl, ?_⟩) (by assumption) ?_
    · intro wx hSw
      try dsimp only at hSw
      go_simp
      try with_reducible rfl
    try simp only [Act.put, List.setIfInBounds_toArray, List.set_cons_zero, List.set_cons_succ]
    refine wpAnyH_done (by kernel_rfl) ?_ _
    have b1 := hHeld.1
    clear hE hk hr' hHeld
    go_wp2
    go_ret
    exact ⟨by rw [E1.out]; rfl, bt hl b1⟩
end Go.Proofs.YthjbmloemmggaaaGreatDoor.Ip

namespace Go.Proofs.YthjbmloemmggaaaGreatDoor.Ip
open Go.RowKit Go.Maps
set_option maxRecDepth 100000
set_option linter.unusedVariables false
set_option linter.unusedSimpArgs false

theorem with1_any (q : Pk) (x : Int) (w : World) (h : q.Fine) (hx0 : 0 ≤ x) (hx1 : x ≤ 8191) : Calls Tryz.prog 76 #[.agg #[.int .i64 q.f, .int .i64 q.t, .int .i64 q.tl, .int .i64 q.pr, .int .i64 q.id, .int .i64 q.fr, .bool q.mo, .bool q.dn, .string q.op, .string q.da], .int .i64 x] w fun e w' => e = .returned (.int .i64 (q.fr - x)) ∧ Below w.heap.size w w' := by
  have h0 := h.f0
  have h1 := h.f1
  have hA := At.box w #[.int .i64 q.f, .int .i64 q.t, .int .i64 q.tl, .int .i64 q.pr, .int .i64 q.id, .int .i64 q.fr, .bool q.mo, .bool q.dn, .string q.op, .string q.da] 23
  have hl := bel1 w (.cells #[.int .i64 q.f, .int .i64 q.t, .int .i64 q.tl, .int .i64 q.pr, .int .i64 q.id, .int .i64 q.fr, .bool q.mo, .bool q.dn, .string q.op, .string q.da] 23)
  obtain ⟨⟨c0, c1, c2, c3, c4, c5, c6, c7, c8, c9⟩, -, -⟩ := hA.ten
  go_enter Tryz.func76, Tryz.ntmps76
  go_wp2
  go_ret
  exact ⟨by first | rfl | (simp <;> omega), hl⟩
def Cutp (ps : List Pk) (x : Int) (lo hi : Nat) : Prop := (∀ t q, ps[t]? = some q → t < lo → q.fr < x) ∧ (∀ t q, ps[t]? = some q → hi ≤ t → x ≤ q.fr)
theorem fr_le {ps : List Pk} (hs : ps.Pairwise (fun a b => a.fr ≤ b.fr)) {s t : Nat} {a b : Pk} (ha : ps[s]? = some a) (hb : ps[t]? = some b) (h : s ≤ t) : a.fr ≤ b.fr := by
  obtain ⟨h1, e1⟩ := List.getElem?_eq_some_iff.1 ha
  obtain ⟨h2, e2⟩ := List.getElem?_eq_some_iff.1 hb
  rw [← e1, ← e2]
  rcases Nat.lt_or_ge s t with h' | h'
  · exact List.pairwise_iff_getElem.1 hs s t h1 h2 h'
  · obtain rfl : s = t := by omega
    exact Int.le_refl _
def SP (ps : List Pk) (x : Int) (e : Ending) : Prop := ∃ (i : Nat) (b : Bool), i ≤ ps.length ∧ e = .returned (.tuple #[.int .i64 (i : Int), .bool b]) ∧ Cutp ps x i i
set_option maxHeartbeats 4000000 in
theorem search_any (ps : List Pk) (x : Int) (w : World) (v : Value) (R : Nat) (hr : RW w R v ps) (hn : ps.length ≤ 1000) (hk : ∀ q ∈ ps, q.Fine) (hx0 : 0 ≤ x) (hx1 : x ≤ 8191) (hs : ps.Pairwise (fun a b => a.fr ≤ b.fr)) :
    Calls Tryz.prog 75 #[v, .int .i64 x, .func (.func 76) #[] #[]] w fun e w' => SP ps x e ∧ Below w.heap.size w w' := by
  obtain ⟨a, c, rfl⟩ := hr.shape
  have HS : Hid (ps.Pairwise (fun a b => a.fr ≤ b.fr)) := hs
  have HK : Hid (∀ q ∈ ps, q.Fine) := hk
  have HR : Hid (RW w R (.slice a ps.length c) ps) := hr
  clear hs hk hr
  go_enter Tryz.func75, Tryz.ntmps75
  go_wp2
  go_loopw [9, 10] (fun s9 s10 W => ∃ lo hi : Nat, lo ≤ hi ∧ hi ≤ ps.length ∧ s9 = .int .i64 (lo : Int) ∧ s10 = .int .i64 (hi : Int) ∧ Below w.heap.size w W ∧ Hid (Cutp ps x lo hi)) (fun s9 s10 _ => (intOf s10).toNat - (intOf s9).toNat)
  case atStart => exact ⟨0, ps.length, Nat.zero_le _, Nat.le_refl _, rfl, rfl, Below.refl _ _, ⟨fun t q _ h => absurd h (Nat.not_lt_zero _), fun t q he h => by have := (List.getElem?_eq_some_iff.1 he).1; omega⟩⟩
  case round =>
    obtain ⟨lo, hi, hlh, hin, rfl, rfl, hb, HI⟩ := hrel
    by_cases hlt : lo < hi
    · have hml : (lo + hi) / 2 < ps.length := by omega
      obtain ⟨q, he⟩ : ∃ q, ps[(lo + hi) / 2]? = some q := ⟨_, List.getElem?_eq_getElem hml⟩
      obtain ⟨g, c', cur, hv, -, hbk, -, -, -, h4⟩ := (HR.out.later hb).real (fun e => by rw [e] at hml; cases hml)
      injection hv with e1 e2 e3
      subst e1 e3
      have hcl := row_cell hbk h4 he
      have hq := HK.out q (List.mem_of_getElem? he)
      have hcall := with1_any q x wr hq hx0 hx1
      have hlt' : (lo : Int) < (hi : Int) := by omega
      have hm0 : (0 : Int) ≤ ((lo : Int) + (hi : Int)) / 2 := by omega
      have hm1 : ((lo : Int) + (hi : Int)) / 2 < (ps.length : Int) := by omega
      have r0 := hcl 0 _ rfl
      have r1 := hcl 1 _ rfl
      have r2 := hcl 2 _ rfl
      have r3 := hcl 3 _ rfl
      have r4 := hcl 4 _ rfl
      have r5 := hcl 5 _ rfl
      have r6 := hcl 6 _ rfl
      have r7 := hcl 7 _ rfl
      have r8 := hcl 8 _ rfl
      have r9 := hcl 9 _ rfl
      rw [Nat.add_zero] at r0
      have hq0 := hq.f0
      have hq1 := hq.f1
      clear hcl hbk h4 hq
      have HE : Hid (ps[(lo + hi) / 2]? = some q) := he
      clear he
      go_wp2_with fail
      refine hcall.mono ?_
      rintro e w1 ⟨rfl, l1⟩
      by_cases hc : q.fr - x < 0
      · go_wp2
        go_roundw
        case rel => exact ⟨(lo + hi) / 2 + 1, hi, by omega, hin, by rw [show ((lo : Int) + (hi : Int)) / 2 + 1 = (((lo + hi) / 2 + 1 : Nat) : Int) by omega], rfl, bt hb l1, ⟨fun t y hy ht => by have := fr_le HS.out hy HE.out (by omega); omega, HI.out.2⟩⟩
        case measure => simp [intOf]; omega
      · go_wp2
        go_roundw
        case rel => exact ⟨lo, (lo + hi) / 2, by omega, by omega, rfl, by rw [show ((lo : Int) + (hi : Int)) / 2 = (((lo + hi) / 2 : Nat) : Int) by omega], bt hb l1, ⟨HI.out.1, fun t y hy ht => by have := fr_le HS.out HE.out hy ht; omega⟩⟩
        case measure => simp [intOf]; omega
    · obtain rfl : hi = lo := by omega
      by_cases hend : hi < ps.length
      · obtain ⟨q, he⟩ : ∃ q, ps[hi]? = some q := ⟨_, List.getElem?_eq_getElem hend⟩
        obtain ⟨g, c', cur, hv, -, hbk, -, -, -, h4⟩ := (HR.out.later hb).real (fun e => by rw [e] at hend; cases hend)
        injection hv with e1 e2 e3
        subst e1 e3
        have hcl := row_cell hbk h4 he
        have hq := HK.out q (List.mem_of_getElem? he)
        have hcall := with1_any q x wr hq hx0 hx1
        have hend' : (hi : Int) < (ps.length : Int) := by omega
        have r0 := hcl 0 _ rfl
        have r1 := hcl 1 _ rfl
        have r2 := hcl 2 _ rfl
        have r3 := hcl 3 _ rfl
        have r4 := hcl 4 _ rfl
        have r5 := hcl 5 _ rfl
        have r6 := hcl 6 _ rfl
        have r7 := hcl 7 _ rfl
        have r8 := hcl 8 _ rfl
        have r9 := hcl 9 _ rfl
        rw [Nat.add_zero] at r0
        clear hcl hbk h4 hq he
        go_wp2_with fail
        refine hcall.mono ?_
        rintro e w1 ⟨rfl, l1⟩
        go_wp2
        go_ret2
        exact ⟨⟨hi, _, hin, rfl, HI.out⟩, bt hb l1⟩
      · have hend' : ¬ (hi : Int) < (ps.length : Int) := by omega
        go_wp2
        go_ret2
        exact ⟨⟨hi, _, hin, rfl, HI.out⟩, hb⟩
end Go.Proofs.YthjbmloemmggaaaGreatDoor.Ip
