/- the texts Fe, Ff, Fg, in part, merged by program -/
import Derived.Test.YtcjhniehbafhpaaRows
import Derived.WalkKit
import Derived.WalkSpells
import Derived.Laws.OwnMore
import Derived.Maps.RangeWalk
import Derived.Maps.OwnSet
import Derived.Maps.Ext
import Derived.Maps.Keyed
import Derived.DeepKeys4
import Derived.WalkSmall
import Derived.Deep.Cut
import Derived.Deep.CutRange
import Derived.Deep.MidRow
import Derived.Deep.QuietTactic
import Derived.BigQuiet
import Derived.Deep.RegionWith
import Derived.OwnWalk
import Derived.Laws.CopyRow
import Derived.OrdersHeld
import Derived.Laws.AppendOwn
import Derived.Laws.AppendOwnNone
import Derived.Carry
import Derived.Deep.RegionHeld3
import Derived.LoopN
import Derived.Shelf.Spec.SlicesInsert
import Derived.Lib.AppendZerosOnto
import Derived.Maps.AppendAt
import Derived.Lib.Overlaps
import Derived.Test.YtcjhniehbafhpaaMA01
import Derived.Test.YtcjhniehbafhpaaMA02
import Derived.Test.YtcjhniehbafhpaaMA03
import Derived.Test.YtcjhniehbafhpaaMA04
namespace Go.Proofs.Ytcjhniehbafhpaa
open Go.RowKit Go.Maps
set_option maxRecDepth 100000
set_option linter.unusedVariables false
set_option linter.unusedSimpArgs false

theorem tl_eq (a b : ByteArray) : (a.toList == b.toList) = decide (a = b) := by
  by_cases h : a = b
  · subst h; simp
  · rw [decide_eq_false h]
    simp only [beq_eq_false_iff_ne, ne_eq]
    exact fun e => h (list_inj e)
theorem has1_any (p q : Pk) (B : Nat) (w : World) (hB : At w B #[.int .i64 p.f, .int .i64 p.t, .int .i64 p.tl, .int .i64 p.pr, .int .i64 p.id, .int .i64 p.fr, .bool p.mo, .bool p.dn, .string p.op, .string p.da]) : Calls Try.prog 49 #[.agg #[.int .i64 q.f, .int .i64 q.t, .int .i64 q.tl, .int .i64 q.pr, .int .i64 q.id, .int .i64 q.fr, .bool q.mo, .bool q.dn, .string q.op, .string q.da], .pointer (some ⟨B, 0, none⟩)] w fun e w' => e = .returned (.bool (hasB p q)) ∧ Below w.heap.size w w' := by
  have hA := At.box w #[.int .i64 q.f, .int .i64 q.t, .int .i64 q.tl, .int .i64 q.pr, .int .i64 q.id, .int .i64 q.fr, .bool q.mo, .bool q.dn, .string q.op, .string q.da] 32
  have hl := bel1 w (.cells #[.int .i64 q.f, .int .i64 q.t, .int .i64 q.tl, .int .i64 q.pr, .int .i64 q.id, .int .i64 q.fr, .bool q.mo, .bool q.dn, .string q.op, .string q.da] 32)
  replace hB := hB.later hl
  unfold hasB
  go_enter Try.func49, Try.ntmps49
  go_upto_region 1 with fail
  obtain ⟨Bq, hBq⟩ : ∃ x, x = w.heap.size := ⟨_, rfl⟩
  rw [← hBq] at hA
  rw [← hBq]
  have HL : Hid (Below w.heap.size w (w.alloc (.cells #[.int .i64 q.f, .int .i64 q.t, .int .i64 q.tl, .int .i64 q.pr, .int .i64 q.id, .int .i64 q.fr, .bool q.mo, .bool q.dn, .string q.op, .string q.da] 32))) := hl
  clear hl hBq
  generalize w.alloc (.cells #[.int .i64 q.f, .int .i64 q.t, .int .i64 q.tl, .int .i64 q.pr, .int .i64 q.id, .int .i64 q.fr, .bool q.mo, .bool q.dn, .string q.op, .string q.da] 32) = W0 at *
  obtain ⟨⟨c0, c1, c2, c3, c4, c5, c6, c7, c8, c9⟩, -, -⟩ := hB.ten
  obtain ⟨⟨d0, d1, d2, d3, d4, d5, d6, d7, d8, d9⟩, -, -⟩ := hA.ten
  clear hA hB
  by_cases h1 : q.fr = p.fr
  · have h1' : (q.fr == p.fr) = true := by simp [h1]
    have H1 : Hid (q.fr = p.fr) := h1
    clear h1
    by_cases h2 : q.da = p.da
    · have h2' : (q.da.toList == p.da.toList) = true := by rw [h2]; simp
      have H2 : Hid (q.da = p.da) := h2
      clear h2
      go_wp2
      go_ret
      exact ⟨by rw [decide_eq_true H1.out, decide_eq_true H2.out]; simp, HL.out⟩
    · have h2' : (q.da.toList == p.da.toList) = false := by rw [tl_eq]; exact decide_eq_false h2
      have H2 : Hid (¬ q.da = p.da) := h2
      clear h2
      go_wp2
      go_ret
      exact ⟨by rw [decide_eq_false H2.out]; simp, HL.out⟩
  · have h1' : (q.fr == p.fr) = false := by simp [h1]
    have H1 : Hid (¬ q.fr = p.fr) := h1
    clear h1
    go_wp2
    go_ret
    exact ⟨by rw [decide_eq_false H1.out]; simp, HL.out⟩
theorem fits1_any (p q : Pk) (B : Nat) (w : World) (hB : At w B #[.int .i64 p.f, .int .i64 p.t, .int .i64 p.tl, .int .i64 p.pr, .int .i64 p.id, .int .i64 p.fr, .bool p.mo, .bool p.dn, .string p.op, .string p.da]) (h : p.Fine) (k : q.Fine) : Calls Try.prog 51 #[.agg #[.int .i64 q.f, .int .i64 q.t, .int .i64 q.tl, .int .i64 q.pr, .int .i64 q.id, .int .i64 q.fr, .bool q.mo, .bool q.dn, .string q.op, .string q.da], .pointer (some ⟨B, 0, none⟩)] w fun e w' => e = .returned (.bool (clashB p q)) ∧ Below w.heap.size w w' := by
  have hA := At.box w #[.int .i64 q.f, .int .i64 q.t, .int .i64 q.tl, .int .i64 q.pr, .int .i64 q.id, .int .i64 q.fr, .bool q.mo, .bool q.dn, .string q.op, .string q.da] 32
  have hl := bel1 w (.cells #[.int .i64 q.f, .int .i64 q.t, .int .i64 q.tl, .int .i64 q.pr, .int .i64 q.id, .int .i64 q.fr, .bool q.mo, .bool q.dn, .string q.op, .string q.da] 32)
  replace hB := hB.later hl
  go_enter Try.func51, Try.ntmps51
  go_upto_region 1 with fail
  obtain ⟨Bq, hBq⟩ : ∃ x, x = w.heap.size := ⟨_, rfl⟩
  rw [← hBq] at hA
  rw [← hBq]
  have HL : Hid (Below w.heap.size w (w.alloc (.cells #[.int .i64 q.f, .int .i64 q.t, .int .i64 q.tl, .int .i64 q.pr, .int .i64 q.id, .int .i64 q.fr, .bool q.mo, .bool q.dn, .string q.op, .string q.da] 32))) := hl
  clear hl hBq
  generalize w.alloc (.cells #[.int .i64 q.f, .int .i64 q.t, .int .i64 q.tl, .int .i64 q.pr, .int .i64 q.id, .int .i64 q.fr, .bool q.mo, .bool q.dn, .string q.op, .string q.da] 32) = W0 at *
  obtain ⟨⟨c0, c1, c2, c3, c4, c5, c6, c7, c8, c9⟩, -, -⟩ := hB.ten
  obtain ⟨⟨d0, d1, d2, d3, d4, d5, d6, d7, d8, d9⟩, -, -⟩ := hA.ten
  clear hA hB
  go_wp2_with fail
  refine (clash_any p q _ h k).mono ?_
  rintro e w1 ⟨rfl, l1⟩
  go_wp2
  go_ret
  exact ⟨rfl, bt HL.out l1⟩
theorem has_any (p : Pk) (ps : List Pk) (at_ tu : Int) (v : Value) (R : Nat) (w : World) (hr : RW w R v ps) (hn : ps.length ≤ 1000000) :
    Calls Try.prog 36 #[.agg #[.int .i64 at_, .int .i64 tu, v], .agg #[.int .i64 p.f, .int .i64 p.t, .int .i64 p.tl, .int .i64 p.pr, .int .i64 p.id, .int .i64 p.fr, .bool p.mo, .bool p.dn, .string p.op, .string p.da]] w fun e w' => e = .returned (.bool (ps.any (hasB p))) ∧ Below w.heap.size w w' := by
  have hX := (At.box w #[.int .i64 at_, .int .i64 tu, v] 61).later (bel1 _ (.cells #[.int .i64 p.f, .int .i64 p.t, .int .i64 p.tl, .int .i64 p.pr, .int .i64 p.id, .int .i64 p.fr, .bool p.mo, .bool p.dn, .string p.op, .string p.da] 32))
  have hB := At.box2 w (.cells #[.int .i64 at_, .int .i64 tu, v] 61) #[.int .i64 p.f, .int .i64 p.t, .int .i64 p.tl, .int .i64 p.pr, .int .i64 p.id, .int .i64 p.fr, .bool p.mo, .bool p.dn, .string p.op, .string p.da] 32
  have hl := bt (bel1 w (.cells #[.int .i64 at_, .int .i64 tu, v] 61)) (bel1 _ (.cells #[.int .i64 p.f, .int .i64 p.t, .int .i64 p.tl, .int .i64 p.pr, .int .i64 p.id, .int .i64 p.fr, .bool p.mo, .bool p.dn, .string p.op, .string p.da] 32))
  have hr' := hr.later hl
  clear hr
  go_enter Try.func36, Try.ntmps36
  go_upto_region 1 with fail
  generalize (w.alloc (.cells #[.int .i64 at_, .int .i64 tu, v] 61)).alloc (.cells #[.int .i64 p.f, .int .i64 p.t, .int .i64 p.tl, .int .i64 p.pr, .int .i64 p.id, .int .i64 p.fr, .bool p.mo, .bool p.dn, .string p.op, .string p.da] 32) = W0 at *
  have x2 := (hX.2 2 _ rfl).1
  have hcon := cont_has p ps (w.heap.size + 1) W0 v R hr' hn (fun W q hq hb => has1_any p q _ W (hB.later hb))
  clear hX hB
  go_wp2_with fail
  refine hcon.mono ?_
  rintro e w1 ⟨rfl, l1⟩
  go_wp2
  go_ret
  exact ⟨rfl, bt hl l1⟩
def fitsL (ps : List Pk) (p : Pk) : Bool := decide (p.en + 20 + (p.op.size : Int) ≤ 65535) && decide (ps.length < 64) && !ps.any (clashB p)
theorem keep13 {W x : World} {a0 : Addr} {a1 : Addr} {a2 : Addr} {a3 : Addr} {a4 : Addr} {a5 : Addr} {a6 : Addr} {a7 : Addr} {a8 : Addr} {a9 : Addr} {a10 : Addr} {v0 : Value} {v1 : Value} {v2 : Value} {v3 : Value} {v4 : Value} {v5 : Value} {v6 : Value} {v7 : Value} {v8 : Value} {v9 : Value} {v10 : Value} {w0 : World} (hb : Below W.heap.size W x) (h : Below w0.heap.size w0 W ∧ W.cell? a0 = some v0 ∧ W.cell? a1 = some v1 ∧ W.cell? a2 = some v2 ∧ W.cell? a3 = some v3 ∧ W.cell? a4 = some v4 ∧ W.cell? a5 = some v5 ∧ W.cell? a6 = some v6 ∧ W.cell? a7 = some v7 ∧ W.cell? a8 = some v8 ∧ W.cell? a9 = some v9 ∧ W.cell? a10 = some v10) : Below w0.heap.size w0 x ∧ x.cell? a0 = some v0 ∧ x.cell? a1 = some v1 ∧ x.cell? a2 = some v2 ∧ x.cell? a3 = some v3 ∧ x.cell? a4 = some v4 ∧ x.cell? a5 = some v5 ∧ x.cell? a6 = some v6 ∧ x.cell? a7 = some v7 ∧ x.cell? a8 = some v8 ∧ x.cell? a9 = some v9 ∧ x.cell? a10 = some v10 :=
  ⟨bt h.1 hb, later hb h.2.1, later hb h.2.2.1, later hb h.2.2.2.1, later hb h.2.2.2.2.1, later hb h.2.2.2.2.2.1, later hb h.2.2.2.2.2.2.1, later hb h.2.2.2.2.2.2.2.1, later hb h.2.2.2.2.2.2.2.2.1, later hb h.2.2.2.2.2.2.2.2.2.1, later hb h.2.2.2.2.2.2.2.2.2.2.1, later hb h.2.2.2.2.2.2.2.2.2.2.2⟩
set_option maxHeartbeats 4000000 in
theorem fitsP_any (p : Pk) (ps : List Pk) (at_ tu : Int) (v : Value) (R : Nat) (w : World) (hr : RW w R v ps) (hn : ps.length ≤ 1000000) (h : p.Fine) (hk : ∀ q ∈ ps, q.Fine) :
    Calls Try.prog 37 #[.agg #[.int .i64 at_, .int .i64 tu, v], .agg #[.int .i64 p.f, .int .i64 p.t, .int .i64 p.tl, .int .i64 p.pr, .int .i64 p.id, .int .i64 p.fr, .bool p.mo, .bool p.dn, .string p.op, .string p.da]] w fun e w' => e = .returned (.bool (fitsL ps p)) ∧ Below w.heap.size w w' := by
  obtain ⟨sa, sc, rfl⟩ := hr.shape
  have h0 := h.f0
  have h1 := h.f1
  have h2 := h.dl
  have h3 := h.ol
  have hX := (At.box w #[.int .i64 at_, .int .i64 tu, .slice sa ps.length sc] 61).later (bel1 _ (.cells #[.int .i64 p.f, .int .i64 p.t, .int .i64 p.tl, .int .i64 p.pr, .int .i64 p.id, .int .i64 p.fr, .bool p.mo, .bool p.dn, .string p.op, .string p.da] 32))
  have hB := At.box2 w (.cells #[.int .i64 at_, .int .i64 tu, .slice sa ps.length sc] 61) #[.int .i64 p.f, .int .i64 p.t, .int .i64 p.tl, .int .i64 p.pr, .int .i64 p.id, .int .i64 p.fr, .bool p.mo, .bool p.dn, .string p.op, .string p.da] 32
  have hl := bt (bel1 w (.cells #[.int .i64 at_, .int .i64 tu, .slice sa ps.length sc] 61)) (bel1 _ (.cells #[.int .i64 p.f, .int .i64 p.t, .int .i64 p.tl, .int .i64 p.pr, .int .i64 p.id, .int .i64 p.fr, .bool p.mo, .bool p.dn, .string p.op, .string p.da] 32))
  have hr' := hr.later hl
  clear hr
  have hE := fun W => end_any p W h
  have w1_ : IntKind.i64.wrap (p.fr * 8 + (p.da.size : Int) + 20) = p.fr * 8 + (p.da.size : Int) + 20 := by rw [IntKind.wrap_i64]; omega
  have w2_ : IntKind.i64.wrap (p.fr * 8 + (p.da.size : Int) + 20 + (p.op.size : Int)) = p.fr * 8 + (p.da.size : Int) + 20 + (p.op.size : Int) := by rw [IntKind.wrap_i64]; omega
  go_enter Try.func37, Try.ntmps37
  go_upto_region 1 with fail
  generalize (w.alloc (.cells #[.int .i64 at_, .int .i64 tu, .slice sa ps.length sc] 61)).alloc (.cells #[.int .i64 p.f, .int .i64 p.t, .int .i64 p.tl, .int .i64 p.pr, .int .i64 p.id, .int .i64 p.fr, .bool p.mo, .bool p.dn, .string p.op, .string p.da] 32) = W0 at *
  have x2 := (hX.2 2 _ rfl).1
  have hcon : ∀ W, Below W0.heap.size W0 W → Calls Try.prog 48 #[.slice sa ps.length sc, .func (.func 51) #[] #[.pointer (some ⟨w.heap.size + 1, 0, none⟩)]] W fun e w' => e = .returned (.bool (ps.any (clashB p))) ∧ Below W.heap.size W w' := fun W hW =>
    cont_fits p ps (w.heap.size + 1) W (.slice sa ps.length sc) R (hr'.later hW) hn (fun W' q hq hb => fits1_any p q _ W' ((hB.later hW).later hb) h (hk q hq))
  obtain ⟨⟨c0, c1, c2, c3, c4, c5, c6, c7, c8, c9⟩, -, -⟩ := hB.ten
  have hx5 : Below W0.heap.size W0 W0 ∧ W0.cell? ⟨w.heap.size + 1, 0, none⟩ = some (.int .i64 p.f) ∧ W0.cell? ⟨w.heap.size + 1, 1, none⟩ = some (.int .i64 p.t) ∧ W0.cell? ⟨w.heap.size + 1, 2, none⟩ = some (.int .i64 p.tl) ∧ W0.cell? ⟨w.heap.size + 1, 3, none⟩ = some (.int .i64 p.pr) ∧ W0.cell? ⟨w.heap.size + 1, 4, none⟩ = some (.int .i64 p.id) ∧ W0.cell? ⟨w.heap.size + 1, 5, none⟩ = some (.int .i64 p.fr) ∧ W0.cell? ⟨w.heap.size + 1, 6, none⟩ = some (.bool p.mo) ∧ W0.cell? ⟨w.heap.size + 1, 7, none⟩ = some (.bool p.dn) ∧ W0.cell? ⟨w.heap.size + 1, 8, none⟩ = some (.string p.op) ∧ W0.cell? ⟨w.heap.size + 1, 9, none⟩ = some (.string p.da) ∧ W0.cell? ⟨w.heap.size, 2, none⟩ = some (.slice sa ps.length sc) := ⟨Below.refl _ _, c0, c1, c2, c3, c4, c5, c6, c7, c8, c9, x2⟩
  clear hX hB c0 c1 c2 c3 c4 c5 c6 c7 c8 c9 x2
  by_cases hg : p.fr * 8 + (p.da.size : Int) + 20 + (p.op.size : Int) ≤ 65535
  · have hg' : ¬ (65535 < p.fr * 8 + (p.da.size : Int) + 20 + (p.op.size : Int)) := by omega
    by_cases hl64 : ps.length < 64
    · have e1 : fitsL ps p = !ps.any (clashB p) := by
        unfold fitsL Pk.en
        rw [decide_eq_true hg, decide_eq_true hl64]; simp
      have E1 : Hid (fitsL ps p = _) := e1
      have hl' : ¬ (64 ≤ (ps.length : Int)) := by omega
      clear e1
      generalize ps.any (clashB p) = r at hcon E1
      refine wp_region_held_drew (S := (fun W => Below W0.heap.size W0 W ∧ W.cell? ⟨w.heap.size + 1, 0, none⟩ = some (.int .i64 p.f) ∧ W.cell? ⟨w.heap.size + 1, 1, none⟩ = some (.int .i64 p.t) ∧ W.cell? ⟨w.heap.size + 1, 2, none⟩ = some (.int .i64 p.tl) ∧ W.cell? ⟨w.heap.size + 1, 3, none⟩ = some (.int .i64 p.pr) ∧ W.cell? ⟨w.heap.size + 1, 4, none⟩ = some (.int .i64 p.id) ∧ W.cell? ⟨w.heap.size + 1, 5, none⟩ = some (.int .i64 p.fr) ∧ W.cell? ⟨w.heap.size + 1, 6, none⟩ = some (.bool p.mo) ∧ W.cell? ⟨w.heap.size + 1, 7, none⟩ = some (.bool p.dn) ∧ W.cell? ⟨w.heap.size + 1, 8, none⟩ = some (.string p.op) ∧ W.cell? ⟨w.heap.size + 1, 9, none⟩ = some (.string p.da) ∧ W.cell? ⟨w.heap.size, 2, none⟩ = some (.slice sa ps.length sc))) (by kernel_rfl) ?_ (fun hHeld => ?_)
      · first | exact ⟨hx5.1.drew, hx5.2.1, hx5.2.2.1, hx5.2.2.2.1, hx5.2.2.2.2.1, hx5.2.2.2.2.2.1, hx5.2.2.2.2.2.2.1, hx5.2.2.2.2.2.2.2.1, hx5.2.2.2.2.2.2.2.2.1, hx5.2.2.2.2.2.2.2.2.2.1, hx5.2.2.2.2.2.2.2.2.2.2.1, hx5.2.2.2.2.2.2.2.2.2.2.2⟩ | assumption
      refine tk (i := 0) (oi := ⟨some 5, .load 32 (.tmp 3), 32, "frag.go:139", #[], none⟩) (v := .agg #[.int .i64 p.f, .int .i64 p.t, .int .i64 p.tl, .int .i64 p.pr, .int .i64 p.id, .int .i64 p.fr, .bool p.mo, .bool p.dn, .string p.op, .string p.da]) rfl (by kernel_rfl) (fun _ _ _ h => h) (Or.inl ⟨by rfl, ?_⟩) (by assumption) ?_
      · intro wx hSw
        try dsimp only at hSw
        go_simp
        try with_reducible rfl
      try simp only [Act.put, La1, La2, La3]
      refine tk (i := 3) (oi := ⟨some 8, .fieldAddr 32 (.tmp 3) 8, 0, "frag.go:139", #[], none⟩) (v := .pointer (some ⟨w.heap.size + 1, 8, none⟩)) rfl (by kernel_rfl) (fun _ _ _ h => h) (Or.inl ⟨by rfl, ?_⟩) (by assumption) ?_
      · intro wx hSw
        go_simp
        try with_reducible rfl
      try simp only [Act.put, La1, La2, La3]
      refine tk (i := 4) (oi := ⟨some 9, .load 9 (.tmp 8), 9, "frag.go:139", #[⟨3, .data⟩], none⟩) (v := .string p.op) rfl (by kernel_rfl) (fun _ _ _ h => h) (Or.inl ⟨by rfl, ?_⟩) (by assumption) ?_
      · intro wx hSw
        try dsimp only at hSw
        go_simp
        try with_reducible rfl
      try simp only [Act.put, La1, La2, La3]
      refine tk (i := 5) (oi := ⟨some 10, .call { callee := .builtin .len, args := #[.tmp 9], argTypes := #[9] }, 3, "frag.go:139", #[⟨4, .data⟩], none⟩) (v := .int .i64 (p.op.size : Int)) rfl (by kernel_rfl) (fun _ _ _ h => h) (Or.inl ⟨by rfl, ?_⟩) (by assumption) ?_
      · intro wx hSw
        try dsimp only at hSw
        go_simp
        try with_reducible rfl
      try simp only [Act.put, La1, La2, La3]
      refine wpAnyH_ready (rs := [1]) (by kernel_rfl) (by simp) ?_
      refine AllReadyH.cons (o := ⟨some 6, .call { callee := .value (.func 50), args := #[.tmp 5], argTypes := #[32] }, 3, "frag.go:139", #[⟨0, .data⟩], none⟩) rfl (fun K hK => ?_) AllReadyH.nil
      go_simp
      go_at_call 50
      refine (hE _).mono ?_
      rintro e w1 ⟨rfl, hb⟩
      first
        | refine hK.out _ _ ?_ (fun hHeld => ?_)
        | (go_wp2_with fail; refine hK.out _ _ ?_ (fun hHeld => ?_))
      · try dsimp only
        (refine keep13 hb ?_; assumption)
      clear hK K
      try simp only [Act.put, La1, La2, La3]
      refine tk (i := 2) (oi := ⟨some 7, .binOp .add 3 (.tmp 6) (.const (.int .i64 20)) 3, 3, "frag.go:139", #[⟨1, .data⟩], none⟩) (v := .int .i64 (p.fr * 8 + (p.da.size : Int) + 20)) rfl (by kernel_rfl) (fun _ _ _ h => h) (Or.inl ⟨by rfl, ?_⟩) (by assumption) ?_
      · intro wx hSw
        go_simp
        try with_reducible rfl
      try simp only [Act.put, La1, La2, La3]
      refine tk (i := 6) (oi := ⟨some 11, .binOp .add 3 (.tmp 7) (.tmp 10) 3, 3, "frag.go:139", #[⟨2, .data⟩, ⟨5, .data⟩], none⟩) (v := .int .i64 (p.fr * 8 + (p.da.size : Int) + 20 + (p.op.size : Int))) rfl (by kernel_rfl) (fun _ _ _ h => h) (Or.inl ⟨by rfl, ?_⟩) (by assumption) ?_
      · intro wx hSw
        go_simp
        try with_reducible rfl
      try simp only [Act.put, La1, La2, La3]
      refine tk (i := 7) (oi := ⟨some 12, .binOp .gtr 3 (.tmp 11) (.const (.int .i64 65535)) 3, 4, "frag.go:139", #[⟨6, .data⟩], none⟩) (v := .bool false) rfl (by kernel_rfl) (fun _ _ _ h => h) (Or.inl ⟨by rfl, ?_⟩) (by assumption) ?_
      · intro wx hSw
        go_simp
        try with_reducible rfl
      try simp only [Act.put, La1, La2, La3]
      refine tk (i := 8) (oi := ⟨some 13, .move (.tmp 12), 4, "frag.go:139", #[⟨7, .data⟩, ⟨1, .chain⟩], none⟩) (v := .bool false) rfl (by kernel_rfl) (fun _ _ _ h => h) (Or.inl ⟨by rfl, ?_⟩) (by assumption) ?_
      · intro wx hSw
        go_simp
        try with_reducible rfl
      try simp only [Act.put, La1, La2, La3]
      refine tk (i := 9) (oi := ⟨some 14, .fieldAddr 61 (.tmp 2) 2, 0, "frag.go:139", #[⟨8, .guard⟩], some (8, false)⟩) (v := .pointer (some ⟨w.heap.size, 2, none⟩)) rfl (by kernel_rfl) (fun _ _ _ h => h) (Or.inl ⟨by rfl, ?_⟩) (by assumption) ?_
      · intro wx hSw
        go_simp
        try with_reducible rfl
      try simp only [Act.put, La1, La2, La3]
      refine tk (i := 10) (oi := ⟨some 15, .load 36 (.tmp 14), 36, "frag.go:139", #[⟨9, .data⟩, ⟨8, .guard⟩], some (8, false)⟩) (v := .slice sa ps.length sc) rfl (by kernel_rfl) (fun _ _ _ h => h) (Or.inl ⟨by rfl, ?_⟩) (by assumption) ?_
      · intro wx hSw
        try dsimp only at hSw
        go_simp
        try with_reducible rfl
      try simp only [Act.put, La1, La2, La3]
      refine tk (i := 11) (oi := ⟨some 16, .call { callee := .builtin .len, args := #[.tmp 15], argTypes := #[36] }, 3, "frag.go:139", #[⟨10, .data⟩, ⟨8, .guard⟩], some (8, false)⟩) (v := .int .i64 (ps.length : Int)) rfl (by kernel_rfl) (fun _ _ _ h => h) (Or.inl ⟨by rfl, ?_⟩) (by assumption) ?_
      · intro wx hSw
        try dsimp only at hSw
        go_simp
        try with_reducible rfl
      try simp only [Act.put, La1, La2, La3]
      refine tk (i := 12) (oi := ⟨some 17, .binOp .geq 3 (.tmp 16) (.const (.int .i64 64)) 3, 4, "frag.go:139", #[⟨11, .data⟩, ⟨8, .guard⟩], some (8, false)⟩) (v := .bool false) rfl (by kernel_rfl) (fun _ _ _ h => h) (Or.inl ⟨by rfl, ?_⟩) (by assumption) ?_
      · intro wx hSw
        go_simp
        try with_reducible rfl
      try simp only [Act.put, La1, La2, La3]
      refine tk (i := 13) (oi := ⟨some 18, .pick (.tmp 13) (.const (.bool true)) (.tmp 17), 4, "frag.go:139", #[⟨8, .data⟩, ⟨12, .data⟩], none⟩) (v := .bool false) rfl (by kernel_rfl) (fun _ _ _ h => h) (Or.inl ⟨by rfl, ?_⟩) (by assumption) ?_
      · intro wx hSw
        go_simp
        try with_reducible rfl
      try simp only [Act.put, La1, La2, La3]
      refine wpAnyH_done (by kernel_rfl) ?_ _
      have x2 := hHeld.2.2.2.2.2.2.2.2.2.2.2
      have b1 := hHeld.1
      have hcon' := hcon _ b1
      clear hE hcon hk hr' hHeld
      go_wp2_with fail
      refine hcon'.mono ?_
      rintro e w3 ⟨rfl, l1⟩
      go_wp2
      go_ret
      exact ⟨by rw [E1.out]; rfl, bt (bt hl b1) l1⟩
    · have e1 : fitsL ps p = false := by
        unfold fitsL
        rw [decide_eq_false hl64]; simp
      have E1 : Hid (fitsL ps p = _) := e1
      have hl' : 64 ≤ (ps.length : Int) := by omega
      clear e1 hcon
      refine wp_region_held_drew (S := (fun W => Below W0.heap.size W0 W ∧ W.cell? ⟨w.heap.size + 1, 0, none⟩ = some (.int .i64 p.f) ∧ W.cell? ⟨w.heap.size + 1, 1, none⟩ = some (.int .i64 p.t) ∧ W.cell? ⟨w.heap.size + 1, 2, none⟩ = some (.int .i64 p.tl) ∧ W.cell? ⟨w.heap.size + 1, 3, none⟩ = some (.int .i64 p.pr) ∧ W.cell? ⟨w.heap.size + 1, 4, none⟩ = some (.int .i64 p.id) ∧ W.cell? ⟨w.heap.size + 1, 5, none⟩ = some (.int .i64 p.fr) ∧ W.cell? ⟨w.heap.size + 1, 6, none⟩ = some (.bool p.mo) ∧ W.cell? ⟨w.heap.size + 1, 7, none⟩ = some (.bool p.dn) ∧ W.cell? ⟨w.heap.size + 1, 8, none⟩ = some (.string p.op) ∧ W.cell? ⟨w.heap.size + 1, 9, none⟩ = some (.string p.da) ∧ W.cell? ⟨w.heap.size, 2, none⟩ = some (.slice sa ps.length sc))) (by kernel_rfl) ?_ (fun hHeld => ?_)
      · first | exact ⟨hx5.1.drew, hx5.2.1, hx5.2.2.1, hx5.2.2.2.1, hx5.2.2.2.2.1, hx5.2.2.2.2.2.1, hx5.2.2.2.2.2.2.1, hx5.2.2.2.2.2.2.2.1, hx5.2.2.2.2.2.2.2.2.1, hx5.2.2.2.2.2.2.2.2.2.1, hx5.2.2.2.2.2.2.2.2.2.2.1, hx5.2.2.2.2.2.2.2.2.2.2.2⟩ | assumption
      refine tk (i := 0) (oi := ⟨some 5, .load 32 (.tmp 3), 32, "frag.go:139", #[], none⟩) (v := .agg #[.int .i64 p.f, .int .i64 p.t, .int .i64 p.tl, .int .i64 p.pr, .int .i64 p.id, .int .i64 p.fr, .bool p.mo, .bool p.dn, .string p.op, .string p.da]) rfl (by kernel_rfl) (fun _ _ _ h => h) (Or.inl ⟨by rfl, ?_⟩) (by assumption) ?_
      · intro wx hSw
        try dsimp only at hSw
        go_simp
        try with_reducible rfl
      try simp only [Act.put, La1, La2, La3]
      refine tk (i := 3) (oi := ⟨some 8, .fieldAddr 32 (.tmp 3) 8, 0, "frag.go:139", #[], none⟩) (v := .pointer (some ⟨w.heap.size + 1, 8, none⟩)) rfl (by kernel_rfl) (fun _ _ _ h => h) (Or.inl ⟨by rfl, ?_⟩) (by assumption) ?_
      · intro wx hSw
        go_simp
        try with_reducible rfl
      try simp only [Act.put, La1, La2, La3]
      refine tk (i := 4) (oi := ⟨some 9, .load 9 (.tmp 8), 9, "frag.go:139", #[⟨3, .data⟩], none⟩) (v := .string p.op) rfl (by kernel_rfl) (fun _ _ _ h => h) (Or.inl ⟨by rfl, ?_⟩) (by assumption) ?_
      · intro wx hSw
        try dsimp only at hSw
        go_simp
        try with_reducible rfl
      try simp only [Act.put, La1, La2, La3]
      refine tk (i := 5) (oi := ⟨some 10, .call { callee := .builtin .len, args := #[.tmp 9], argTypes := #[9] }, 3, "frag.go:139", #[⟨4, .data⟩], none⟩) (v := .int .i64 (p.op.size : Int)) rfl (by kernel_rfl) (fun _ _ _ h => h) (Or.inl ⟨by rfl, ?_⟩) (by assumption) ?_
      · intro wx hSw
        try dsimp only at hSw
        go_simp
        try with_reducible rfl
      try simp only [Act.put, La1, La2, La3]
      refine wpAnyH_ready (rs := [1]) (by kernel_rfl) (by simp) ?_
      refine AllReadyH.cons (o := ⟨some 6, .call { callee := .value (.func 50), args := #[.tmp 5], argTypes := #[32] }, 3, "frag.go:139", #[⟨0, .data⟩], none⟩) rfl (fun K hK => ?_) AllReadyH.nil
      go_simp
      go_at_call 50
      refine (hE _).mono ?_
      rintro e w1 ⟨rfl, hb⟩
      first
        | refine hK.out _ _ ?_ (fun hHeld => ?_)
        | (go_wp2_with fail; refine hK.out _ _ ?_ (fun hHeld => ?_))
      · try dsimp only
        (refine keep13 hb ?_; assumption)
      clear hK K
      try simp only [Act.put, La1, La2, La3]
      refine tk (i := 2) (oi := ⟨some 7, .binOp .add 3 (.tmp 6) (.const (.int .i64 20)) 3, 3, "frag.go:139", #[⟨1, .data⟩], none⟩) (v := .int .i64 (p.fr * 8 + (p.da.size : Int) + 20)) rfl (by kernel_rfl) (fun _ _ _ h => h) (Or.inl ⟨by rfl, ?_⟩) (by assumption) ?_
      · intro wx hSw
        go_simp
        try with_reducible rfl
      try simp only [Act.put, La1, La2, La3]
      refine tk (i := 6) (oi := ⟨some 11, .binOp .add 3 (.tmp 7) (.tmp 10) 3, 3, "frag.go:139", #[⟨2, .data⟩, ⟨5, .data⟩], none⟩) (v := .int .i64 (p.fr * 8 + (p.da.size : Int) + 20 + (p.op.size : Int))) rfl (by kernel_rfl) (fun _ _ _ h => h) (Or.inl ⟨by rfl, ?_⟩) (by assumption) ?_
      · intro wx hSw
        go_simp
        try with_reducible rfl
      try simp only [Act.put, La1, La2, La3]
      refine tk (i := 7) (oi := ⟨some 12, .binOp .gtr 3 (.tmp 11) (.const (.int .i64 65535)) 3, 4, "frag.go:139", #[⟨6, .data⟩], none⟩) (v := .bool false) rfl (by kernel_rfl) (fun _ _ _ h => h) (Or.inl ⟨by rfl, ?_⟩) (by assumption) ?_
      · intro wx hSw
        go_simp
        try with_reducible rfl
      try simp only [Act.put, La1, La2, La3]
      refine tk (i := 8) (oi := ⟨some 13, .move (.tmp 12), 4, "frag.go:139", #[⟨7, .data⟩, ⟨1, .chain⟩], none⟩) (v := .bool false) rfl (by kernel_rfl) (fun _ _ _ h => h) (Or.inl ⟨by rfl, ?_⟩) (by assumption) ?_
      · intro wx hSw
        go_simp
        try with_reducible rfl
      try simp only [Act.put, La1, La2, La3]
      refine tk (i := 9) (oi := ⟨some 14, .fieldAddr 61 (.tmp 2) 2, 0, "frag.go:139", #[⟨8, .guard⟩], some (8, false)⟩) (v := .pointer (some ⟨w.heap.size, 2, none⟩)) rfl (by kernel_rfl) (fun _ _ _ h => h) (Or.inl ⟨by rfl, ?_⟩) (by assumption) ?_
      · intro wx hSw
        go_simp
        try with_reducible rfl
      try simp only [Act.put, La1, La2, La3]
      refine tk (i := 10) (oi := ⟨some 15, .load 36 (.tmp 14), 36, "frag.go:139", #[⟨9, .data⟩, ⟨8, .guard⟩], some (8, false)⟩) (v := .slice sa ps.length sc) rfl (by kernel_rfl) (fun _ _ _ h => h) (Or.inl ⟨by rfl, ?_⟩) (by assumption) ?_
      · intro wx hSw
        try dsimp only at hSw
        go_simp
        try with_reducible rfl
      try simp only [Act.put, La1, La2, La3]
      refine tk (i := 11) (oi := ⟨some 16, .call { callee := .builtin .len, args := #[.tmp 15], argTypes := #[36] }, 3, "frag.go:139", #[⟨10, .data⟩, ⟨8, .guard⟩], some (8, false)⟩) (v := .int .i64 (ps.length : Int)) rfl (by kernel_rfl) (fun _ _ _ h => h) (Or.inl ⟨by rfl, ?_⟩) (by assumption) ?_
      · intro wx hSw
        try dsimp only at hSw
        go_simp
        try with_reducible rfl
      try simp only [Act.put, La1, La2, La3]
      refine tk (i := 12) (oi := ⟨some 17, .binOp .geq 3 (.tmp 16) (.const (.int .i64 64)) 3, 4, "frag.go:139", #[⟨11, .data⟩, ⟨8, .guard⟩], some (8, false)⟩) (v := .bool true) rfl (by kernel_rfl) (fun _ _ _ h => h) (Or.inl ⟨by rfl, ?_⟩) (by assumption) ?_
      · intro wx hSw
        go_simp
        try with_reducible rfl
      try simp only [Act.put, La1, La2, La3]
      refine tk (i := 13) (oi := ⟨some 18, .pick (.tmp 13) (.const (.bool true)) (.tmp 17), 4, "frag.go:139", #[⟨8, .data⟩, ⟨12, .data⟩], none⟩) (v := .bool true) rfl (by kernel_rfl) (fun _ _ _ h => h) (Or.inl ⟨by rfl, ?_⟩) (by assumption) ?_
      · intro wx hSw
        go_simp
        try with_reducible rfl
      try simp only [Act.put, La1, La2, La3]
      refine wpAnyH_done (by kernel_rfl) ?_ _
      have b1 := hHeld.1
      clear hE hk hr' hHeld
      go_wp2
      go_ret
      exact ⟨by rw [E1.out]; rfl, bt hl b1⟩
  · have e1 : fitsL ps p = false := by
      unfold fitsL Pk.en
      rw [decide_eq_false hg]; simp
    have E1 : Hid (fitsL ps p = _) := e1
    have hg' : 65535 < p.fr * 8 + (p.da.size : Int) + 20 + (p.op.size : Int) := by omega
    clear e1 hcon
    refine wp_region_held_drew (S := (fun W => Below W0.heap.size W0 W ∧ W.cell? ⟨w.heap.size + 1, 0, none⟩ = some (.int .i64 p.f) ∧ W.cell? ⟨w.heap.size + 1, 1, none⟩ = some (.int .i64 p.t) ∧ W.cell? ⟨w.heap.size + 1, 2, none⟩ = some (.int .i64 p.tl) ∧ W.cell? ⟨w.heap.size + 1, 3, none⟩ = some (.int .i64 p.pr) ∧ W.cell? ⟨w.heap.size + 1, 4, none⟩ = some (.int .i64 p.id) ∧ W.cell? ⟨w.heap.size + 1, 5, none⟩ = some (.int .i64 p.fr) ∧ W.cell? ⟨w.heap.size + 1, 6, none⟩ = some (.bool p.mo) ∧ W.cell? ⟨w.heap.size + 1, 7, none⟩ = some (.bool p.dn) ∧ W.cell? ⟨w.heap.size + 1, 8, none⟩ = some (.string p.op) ∧ W.cell? ⟨w.heap.size + 1, 9, none⟩ = some (.string p.da) ∧ W.cell? ⟨w.heap.size, 2, none⟩ = some (.slice sa ps.length sc))) (by kernel_rfl) ?_ (fun hHeld => ?_)
    · first | exact ⟨hx5.1.drew, hx5.2.1, hx5.2.2.1, hx5.2.2.2.1, hx5.2.2.2.2.1, hx5.2.2.2.2.2.1, hx5.2.2.2.2.2.2.1, hx5.2.2.2.2.2.2.2.1, hx5.2.2.2.2.2.2.2.2.1, hx5.2.2.2.2.2.2.2.2.2.1, hx5.2.2.2.2.2.2.2.2.2.2.1, hx5.2.2.2.2.2.2.2.2.2.2.2⟩ | assumption
    refine tk (i := 0) (oi := ⟨some 5, .load 32 (.tmp 3), 32, "frag.go:139", #[], none⟩) (v := .agg #[.int .i64 p.f, .int .i64 p.t, .int .i64 p.tl, .int .i64 p.pr, .int .i64 p.id, .int .i64 p.fr, .bool p.mo, .bool p.dn, .string p.op, .string p.da]) rfl (by kernel_rfl) (fun _ _ _ h => h) (Or.inl ⟨by rfl, ?_⟩) (by assumption) ?_
    · intro wx hSw
      try dsimp only at hSw
      go_simp
      try with_reducible rfl
    try simp only [Act.put, La1, La2, La3]
    refine tk (i := 3) (oi := ⟨some 8, .fieldAddr 32 (.tmp 3) 8, 0, "frag.go:139", #[], none⟩) (v := .pointer (some ⟨w.heap.size + 1, 8, none⟩)) rfl (by kernel_rfl) (fun _ _ _ h => h) (Or.inl ⟨by rfl, ?_⟩) (by assumption) ?_
    · intro wx hSw
      go_simp
      try with_reducible rfl
    try simp only [Act.put, La1, La2, La3]
    refine tk (i := 4) (oi := ⟨some 9, .load 9 (.tmp 8), 9, "frag.go:139", #[⟨3, .data⟩], none⟩) (v := .string p.op) rfl (by kernel_rfl) (fun _ _ _ h => h) (Or.inl ⟨by rfl, ?_⟩) (by assumption) ?_
    · intro wx hSw
      try dsimp only at hSw
      go_simp
      try with_reducible rfl
    try simp only [Act.put, La1, La2, La3]
    refine tk (i := 5) (oi := ⟨some 10, .call { callee := .builtin .len, args := #[.tmp 9], argTypes := #[9] }, 3, "frag.go:139", #[⟨4, .data⟩], none⟩) (v := .int .i64 (p.op.size : Int)) rfl (by kernel_rfl) (fun _ _ _ h => h) (Or.inl ⟨by rfl, ?_⟩) (by assumption) ?_
    · intro wx hSw
      try dsimp only at hSw
      go_simp
      try with_reducible rfl
    try simp only [Act.put, La1, La2, La3]
    refine wpAnyH_ready (rs := [1]) (by kernel_rfl) (by simp) ?_
    refine AllReadyH.cons (o := ⟨some 6, .call { callee := .value (.func 50), args := #[.tmp 5], argTypes := #[32] }, 3, "frag.go:139", #[⟨0, .data⟩], none⟩) rfl (fun K hK => ?_) AllReadyH.nil
    go_simp
    go_at_call 50
    refine (hE _).mono ?_
    rintro e w1 ⟨rfl, hb⟩
    first
      | refine hK.out _ _ ?_ (fun hHeld => ?_)
      | (go_wp2_with fail; refine hK.out _ _ ?_ (fun hHeld => ?_))
    · try dsimp only
      (refine keep13 hb ?_; assumption)
    clear hK K
    try simp only [Act.put, La1, La2, La3]
    refine tk (i := 2) (oi := ⟨some 7, .binOp .add 3 (.tmp 6) (.const (.int .i64 20)) 3, 3, "frag.go:139", #[⟨1, .data⟩], none⟩) (v := .int .i64 (p.fr * 8 + (p.da.size : Int) + 20)) rfl (by kernel_rfl) (fun _ _ _ h => h) (Or.inl ⟨by rfl, ?_⟩) (by assumption) ?_
    · intro wx hSw
      go_simp
      try with_reducible rfl
    try simp only [Act.put, La1, La2, La3]
    refine tk (i := 6) (oi := ⟨some 11, .binOp .add 3 (.tmp 7) (.tmp 10) 3, 3, "frag.go:139", #[⟨2, .data⟩, ⟨5, .data⟩], none⟩) (v := .int .i64 (p.fr * 8 + (p.da.size : Int) + 20 + (p.op.size : Int))) rfl (by kernel_rfl) (fun _ _ _ h => h) (Or.inl ⟨by rfl, ?_⟩) (by assumption) ?_
    · intro wx hSw
      go_simp
      try with_reducible rfl
    try simp only [Act.put, La1, La2, La3]
    refine tk (i := 7) (oi := ⟨some 12, .binOp .gtr 3 (.tmp 11) (.const (.int .i64 65535)) 3, 4, "frag.go:139", #[⟨6, .data⟩], none⟩) (v := .bool true) rfl (by kernel_rfl) (fun _ _ _ h => h) (Or.inl ⟨by rfl, ?_⟩) (by assumption) ?_
    · intro wx hSw
      go_simp
      try with_reducible rfl
    try simp only [Act.put, La1, La2, La3]
    refine tk (i := 8) (oi := ⟨some 13, .move (.tmp 12), 4, "frag.go:139", #[⟨7, .data⟩, ⟨1, .chain⟩], none⟩) (v := .bool true) rfl (by kernel_rfl) (fun _ _ _ h => h) (Or.inl ⟨by rfl, ?_⟩) (by assumption) ?_
    · intro wx hSw
      go_simp
      try with_reducible rfl
    try simp only [Act.put, La1, La2, La3]
    refine tk (i := 9) (oi := ⟨some 14, .fieldAddr 61 (.tmp 2) 2, 0, "frag.go:139", #[⟨8, .guard⟩], some (8, false)⟩) (v := undef) rfl (by kernel_rfl) (fun _ _ _ h => h) (Or.inr ⟨by rfl, rfl⟩) (by assumption) ?_
    try simp only [Act.put, La1, La2, La3]
    refine tk (i := 10) (oi := ⟨some 15, .load 36 (.tmp 14), 36, "frag.go:139", #[⟨9, .data⟩, ⟨8, .guard⟩], some (8, false)⟩) (v := undef) rfl (by kernel_rfl) (fun _ _ _ h => h) (Or.inr ⟨by rfl, rfl⟩) (by assumption) ?_
    try simp only [Act.put, La1, La2, La3]
    refine tk (i := 11) (oi := ⟨some 16, .call { callee := .builtin .len, args := #[.tmp 15], argTypes := #[36] }, 3, "frag.go:139", #[⟨10, .data⟩, ⟨8, .guard⟩], some (8, false)⟩) (v := undef) rfl (by kernel_rfl) (fun _ _ _ h => h) (Or.inr ⟨by rfl, rfl⟩) (by assumption) ?_
    try simp only [Act.put, La1, La2, La3]
    refine tk (i := 12) (oi := ⟨some 17, .binOp .geq 3 (.tmp 16) (.const (.int .i64 64)) 3, 4, "frag.go:139", #[⟨11, .data⟩, ⟨8, .guard⟩], some (8, false)⟩) (v := undef) rfl (by kernel_rfl) (fun _ _ _ h => h) (Or.inr ⟨by rfl, rfl⟩) (by assumption) ?_
    try simp only [Act.put, La1, La2, La3]
    refine tk (i := 13) (oi := ⟨some 18, .pick (.tmp 13) (.const (.bool true)) (.tmp 17), 4, "frag.go:139", #[⟨8, .data⟩, ⟨12, .data⟩], none⟩) (v := .bool true) rfl (by kernel_rfl) (fun _ _ _ h => h) (Or.inl ⟨by rfl, ?_⟩) (by assumption) ?_
    · intro wx hSw
      go_simp
      try with_reducible rfl
    try simp only [Act.put, La1, La2, La3]
    refine wpAnyH_done (by kernel_rfl) ?_ _
    have b1 := hHeld.1
    clear hE hk hr' hHeld
    go_wp2
    go_ret
    exact ⟨by rw [E1.out]; rfl, bt hl b1⟩
end Go.Proofs.Ytcjhniehbafhpaa

namespace Go.Proofs.Ytcjhniehbafhpaa
open Go.RowKit Go.Maps
set_option maxRecDepth 100000
set_option linter.unusedVariables false
set_option linter.unusedSimpArgs false

theorem with1_any (q : Pk) (x : Int) (w : World) (h : q.Fine) (hx0 : 0 ≤ x) (hx1 : x ≤ 8191) : Calls Try.prog 54 #[.agg #[.int .i64 q.f, .int .i64 q.t, .int .i64 q.tl, .int .i64 q.pr, .int .i64 q.id, .int .i64 q.fr, .bool q.mo, .bool q.dn, .string q.op, .string q.da], .int .i64 x] w fun e w' => e = .returned (.int .i64 (q.fr - x)) ∧ Below w.heap.size w w' := by
  have h0 := h.f0
  have h1 := h.f1
  have hA := At.box w #[.int .i64 q.f, .int .i64 q.t, .int .i64 q.tl, .int .i64 q.pr, .int .i64 q.id, .int .i64 q.fr, .bool q.mo, .bool q.dn, .string q.op, .string q.da] 32
  have hl := bel1 w (.cells #[.int .i64 q.f, .int .i64 q.t, .int .i64 q.tl, .int .i64 q.pr, .int .i64 q.id, .int .i64 q.fr, .bool q.mo, .bool q.dn, .string q.op, .string q.da] 32)
  obtain ⟨⟨c0, c1, c2, c3, c4, c5, c6, c7, c8, c9⟩, -, -⟩ := hA.ten
  go_enter Try.func54, Try.ntmps54
  go_wp2
  go_ret
  exact ⟨by first | rfl | (simp <;> omega), hl⟩
def Cutp (ps : List Pk) (x : Int) (lo hi : Nat) : Prop := (∀ t q, ps[t]? = some q → t < lo → q.fr < x) ∧ (∀ t q, ps[t]? = some q → hi ≤ t → x ≤ q.fr)
theorem fr_le {ps : List Pk} (hs : ps.Pairwise (fun a b => a.fr ≤ b.fr)) {s t : Nat} {a b : Pk} (ha : ps[s]? = some a) (hb : ps[t]? = some b) (h : s ≤ t) : a.fr ≤ b.fr := by
  obtain ⟨h1, e1⟩ := List.getElem?_eq_some_iff.1 ha
  obtain ⟨h2, e2⟩ := List.getElem?_eq_some_iff.1 hb
  rw [← e1, ← e2]
  rcases Nat.lt_or_ge s t with h' | h'
  · exact List.pairwise_iff_getElem.1 hs s t h1 h2 h'
  · obtain rfl : s = t := by omega
    exact Int.le_refl _
def SP (ps : List Pk) (x : Int) (e : Ending) : Prop := ∃ (i : Nat) (b : Bool), i ≤ ps.length ∧ e = .returned (.tuple #[.int .i64 (i : Int), .bool b]) ∧ Cutp ps x i i
set_option maxHeartbeats 4000000 in
theorem search_any (ps : List Pk) (x : Int) (w : World) (v : Value) (R : Nat) (hr : RW w R v ps) (hn : ps.length ≤ 1000) (hk : ∀ q ∈ ps, q.Fine) (hx0 : 0 ≤ x) (hx1 : x ≤ 8191) (hs : ps.Pairwise (fun a b => a.fr ≤ b.fr)) :
    Calls Try.prog 53 #[v, .int .i64 x, .func (.func 54) #[] #[]] w fun e w' => SP ps x e ∧ Below w.heap.size w w' := by
  obtain ⟨a, c, rfl⟩ := hr.shape
  have HS : Hid (ps.Pairwise (fun a b => a.fr ≤ b.fr)) := hs
  have HK : Hid (∀ q ∈ ps, q.Fine) := hk
  have HR : Hid (RW w R (.slice a ps.length c) ps) := hr
  clear hs hk hr
  go_enter Try.func53, Try.ntmps53
  go_wp2
  go_loopw [9, 10] (fun s9 s10 W => ∃ lo hi : Nat, lo ≤ hi ∧ hi ≤ ps.length ∧ s9 = .int .i64 (lo : Int) ∧ s10 = .int .i64 (hi : Int) ∧ Below w.heap.size w W ∧ Hid (Cutp ps x lo hi)) (fun s9 s10 _ => (intOf s10).toNat - (intOf s9).toNat)
  case atStart => exact ⟨0, ps.length, Nat.zero_le _, Nat.le_refl _, rfl, rfl, Below.refl _ _, ⟨fun t q _ h => absurd h (Nat.not_lt_zero _), fun t q he h => by have := (List.getElem?_eq_some_iff.1 he).1; omega⟩⟩
  case round =>
    obtain ⟨lo, hi, hlh, hin, rfl, rfl, hb, HI⟩ := hrel
    by_cases hlt : lo < hi
    · have hml : (lo + hi) / 2 < ps.length := by omega
      obtain ⟨q, he⟩ : ∃ q, ps[(lo + hi) / 2]? = some q := ⟨_, List.getElem?_eq_getElem hml⟩
      obtain ⟨g, c', cur, hv, -, hbk, -, -, -, h4⟩ := (HR.out.later hb).real (fun e => by rw [e] at hml; cases hml)
      injection hv with e1 e2 e3
      subst e1 e3
      have hcl := row_cell hbk h4 he
      have hq := HK.out q (List.mem_of_getElem? he)
      have hcall := with1_any q x wr hq hx0 hx1
      have hlt' : (lo : Int) < (hi : Int) := by omega
      have hm0 : (0 : Int) ≤ ((lo : Int) + (hi : Int)) / 2 := by omega
      have hm1 : ((lo : Int) + (hi : Int)) / 2 < (ps.length : Int) := by omega
      have r0 := hcl 0 _ rfl
      have r1 := hcl 1 _ rfl
      have r2 := hcl 2 _ rfl
      have r3 := hcl 3 _ rfl
      have r4 := hcl 4 _ rfl
      have r5 := hcl 5 _ rfl
      have r6 := hcl 6 _ rfl
      have r7 := hcl 7 _ rfl
      have r8 := hcl 8 _ rfl
      have r9 := hcl 9 _ rfl
      rw [Nat.add_zero] at r0
      have hq0 := hq.f0
      have hq1 := hq.f1
      clear hcl hbk h4 hq
      have HE : Hid (ps[(lo + hi) / 2]? = some q) := he
      clear he
      go_wp2_with fail
      refine hcall.mono ?_
      rintro e w1 ⟨rfl, l1⟩
      by_cases hc : q.fr - x < 0
      · go_wp2
        go_roundw
        case rel => exact ⟨(lo + hi) / 2 + 1, hi, by omega, hin, by rw [show ((lo : Int) + (hi : Int)) / 2 + 1 = (((lo + hi) / 2 + 1 : Nat) : Int) by omega], rfl, bt hb l1, ⟨fun t y hy ht => by have := fr_le HS.out hy HE.out (by omega); omega, HI.out.2⟩⟩
        case measure => simp [intOf]; omega
      · go_wp2
        go_roundw
        case rel => exact ⟨lo, (lo + hi) / 2, by omega, by omega, rfl, by rw [show ((lo : Int) + (hi : Int)) / 2 = (((lo + hi) / 2 : Nat) : Int) by omega], bt hb l1, ⟨HI.out.1, fun t y hy ht => by have := fr_le HS.out HE.out hy ht; omega⟩⟩
        case measure => simp [intOf]; omega
    · obtain rfl : hi = lo := by omega
      by_cases hend : hi < ps.length
      · obtain ⟨q, he⟩ : ∃ q, ps[hi]? = some q := ⟨_, List.getElem?_eq_getElem hend⟩
        obtain ⟨g, c', cur, hv, -, hbk, -, -, -, h4⟩ := (HR.out.later hb).real (fun e => by rw [e] at hend; cases hend)
        injection hv with e1 e2 e3
        subst e1 e3
        have hcl := row_cell hbk h4 he
        have hq := HK.out q (List.mem_of_getElem? he)
        have hcall := with1_any q x wr hq hx0 hx1
        have hend' : (hi : Int) < (ps.length : Int) := by omega
        have r0 := hcl 0 _ rfl
        have r1 := hcl 1 _ rfl
        have r2 := hcl 2 _ rfl
        have r3 := hcl 3 _ rfl
        have r4 := hcl 4 _ rfl
        have r5 := hcl 5 _ rfl
        have r6 := hcl 6 _ rfl
        have r7 := hcl 7 _ rfl
        have r8 := hcl 8 _ rfl
        have r9 := hcl 9 _ rfl
        rw [Nat.add_zero] at r0
        clear hcl hbk h4 hq he
        go_wp2_with fail
        refine hcall.mono ?_
        rintro e w1 ⟨rfl, l1⟩
        go_wp2
        go_ret2
        exact ⟨⟨hi, _, hin, rfl, HI.out⟩, bt hb l1⟩
      · have hend' : ¬ (hi : Int) < (ps.length : Int) := by omega
        go_wp2
        go_ret2
        exact ⟨⟨hi, _, hin, rfl, HI.out⟩, hb⟩
end Go.Proofs.Ytcjhniehbafhpaa

namespace Go.Proofs.Ytcjhniehbafhpaa
open Go.RowKit Go.Maps
set_option maxRecDepth 100000
set_option linter.unusedVariables false
set_option linter.unusedSimpArgs false

theorem infoK : (Try.prog.info? 32).map (fun i => (i.zero, i.size, i.bytes)) = some (some (.agg #[.int .i64 0, .int .i64 0, .int .i64 0, .int .i64 0, .int .i64 0, .int .i64 0, .bool false, .bool false, .string ⟨#[]⟩, .string ⟨#[]⟩]), 10, 88) := by kernel_rfl
theorem infoK2 : (Try.prog.info? 32).map (·.size) = some 10 := by kernel_rfl
theorem sizeK (w : World) : (Go.sizeOf 32).run Try.prog w = .ok 10 w := by kernel_rfl
def insL (ps : List Pk) (i : Nat) (p : Pk) : List Pk := ps.take i ++ p :: ps.drop i
theorem flatP_app (a b : List Pk) : flatP (a ++ b) = flatP a ++ flatP b := by simp [flatP]
theorem flatP_cons (p : Pk) (b : List Pk) : flatP (p :: b) = p.L ++ flatP b := rfl
theorem oneL (p : Pk) : ∀ u ∈ p.L, u.oneCell' = true := one10 _ _ _ _ _ _ _ _ _ _
theorem oneF (ps : List Pk) : ∀ u ∈ flatP ps, u.oneCell' = true := fun u hu => by
  unfold flatP at hu
  obtain ⟨p, -, h⟩ := List.mem_flatMap.1 hu
  exact oneL p u h
theorem mid_list (X A B C L : List Value) (hX : X = A ++ B ++ C) (hL : L.length = 10) (hC : 10 ≤ C.length) :
    ((X.take (A.length + 10) ++ B ++ X.drop (A.length + 10 + B.length)).take A.length ++ L ++ (X.take (A.length + 10) ++ B ++ X.drop (A.length + 10 + B.length)).drop (A.length + L.length)) = A ++ L ++ B ++ C.drop 10 := by
  subst hX
  have h1 : (A ++ B ++ C).take (A.length + 10) = A ++ (B ++ C).take 10 := by rw [List.append_assoc, List.take_append, List.take_of_length_le (by omega), show A.length + 10 - A.length = 10 by omega]
  have h2 : (A ++ B ++ C).drop (A.length + 10 + B.length) = C.drop 10 := by rw [List.drop_append, List.drop_eq_nil_of_le (by rw [List.length_append]; omega), List.nil_append]; first | rfl | (congr 1; first | done | omega | (simp; done) | (simp; omega))
  have h3 : ((B ++ C).take 10).length = 10 := by rw [List.length_take, List.length_append]; omega
  have h4 : ∀ D : List Value, (A ++ (B ++ C).take 10 ++ D).take A.length = A := fun D => by rw [List.append_assoc]; exact List.take_left
  have h5 : ∀ D : List Value, (A ++ (B ++ C).take 10 ++ D).drop (A.length + 10) = D := fun D => List.drop_left' (by rw [List.length_append, h3])
  rw [h1, h2, hL, List.append_assoc (A ++ List.take 10 (B ++ C)), h4, h5]
  simp
set_option maxHeartbeats 4000000 in
theorem insert_end (ps : List Pk) (p : Pk) (w : World) (v : Value) (R vb : Nat) (hr : RW w R v ps) (hV : w.heap[vb]? = some (.cells #[.int .i64 p.f, .int .i64 p.t, .int .i64 p.tl, .int .i64 p.pr, .int .i64 p.id, .int .i64 p.fr, .bool p.mo, .bool p.dn, .string p.op, .string p.da] 32 (0, 0))) (hR : R ≤ w.heap.size) (hn : ps.length < 1000) :
    Calls Try.prog 55 #[v, .int .i64 (ps.length : Int), .slice (some ⟨vb, 0, none⟩) 1 1] w fun e w' => ∃ v', e = .returned v' ∧ RW w' R v' (ps ++ [p]) ∧ Turn (fun k => v.ownBlock = some k) w w' ∧ (v'.ownBlock = v.ownBlock ∨ v'.ownBlock = some w.heap.size) := by
  obtain ⟨i0, hi, hz0, hz1, hz2⟩ := info_parts infoK
  have HI : Hid (Try.prog.info? 32 = some i0) := hi
  have HZ : Hid (i0.zero = some (.agg #[.int .i64 0, .int .i64 0, .int .i64 0, .int .i64 0, .int .i64 0, .int .i64 0, .bool false, .bool false, .string ⟨#[]⟩, .string ⟨#[]⟩]) ∧ i0.size = 10 ∧ i0.bytes = 88) := ⟨hz0, hz1, hz2⟩
  clear hi hz0 hz1 hz2
  have hcell : ∀ j u, p.L[j]? = some u → w.cell? ((⟨vb, 0, none⟩ : Addr).add j) = some u := fun j u hu => by
    rw [Addr.add_lit, Nat.zero_add]
    simp [World.cell?, hV]
    simpa [Pk.L] using hu
  have HC : Hid (∀ j u, p.L[j]? = some u → w.cell? ((⟨vb, 0, none⟩ : Addr).add j) = some u) := hcell
  have HR : Hid (RW w R v ps) := hr
  clear hcell hV
  have fin : ∀ v' w', w'.ownsRow R 32 10 v' (ps.length + 1) (flatP ps ++ p.L) → w.grownBy w' v.ownBlock → RW w' R v' (ps ++ [p]) ∧ Turn (fun k => v.ownBlock = some k) w w' := fun v' w' h1 h2 => by
    refine ⟨?_, Turn.of_grown h2 (fun j hj => Or.inl hj)⟩
    unfold RW
    rw [flatP_app, List.length_append]
    exact h1
  obtain ⟨a, c, rfl⟩ := hr.shape
  have hnn : ¬ (ps.length : Int) < 0 := by omega
  by_cases hcn : c = ps.length
  · subst hcn
    clear hr
    go_enter Try.func55, Try.ntmps55
    go_wp2_with (at_builtin; refine wpList_append_own_at _ rfl _ _ 36 rfl R 32 i0 _ 10 88 Try.underlying36 HI.out HZ.out.1 HZ.out.2.1 HZ.out.2.2 rfl (by decide) _ ps.length (flatP ps) rfl HR.out ⟨vb, 0, none⟩ 1 1 p.L rfl rfl HC.out (oneL p) (by unfold maxLen; omega) (by omega) hR ?_; intro v' w' h1 h2 h3 h4)
    go_ret
    exact ⟨v', rfl, (fin v' w' h1 h2).1, (fin v' w' h1 h2).2, h4⟩
  · clear hr
    have hcn' : ¬ ((c : Int) - (ps.length : Int) = 0) := by omega
    go_enter Try.func55, Try.ntmps55
    go_wp2_with (at_builtin; refine wpList_append_own_at _ rfl _ _ 36 rfl R 32 i0 _ 10 88 Try.underlying36 HI.out HZ.out.1 HZ.out.2.1 HZ.out.2.2 rfl (by decide) _ ps.length (flatP ps) rfl HR.out ⟨vb, 0, none⟩ 1 1 p.L rfl rfl HC.out (oneL p) (by unfold maxLen; omega) (by omega) hR ?_; intro v' w' h1 h2 h3 h4)
    go_ret
    exact ⟨v', rfl, (fin v' w' h1 h2).1, (fin v' w' h1 h2).2, h4⟩
set_option maxHeartbeats 4000000 in
theorem insert_room (ps : List Pk) (p : Pk) (w : World) (g c R vb i : Nat) (cur : Array Value) (hb : w.heap[g]? = some (.cells cur 32 (0, 0))) (hsz : cur.size = c * 10) (htk : cur.toList.take (ps.length * 10) = flatP ps) (hcm : c ≤ maxLen) (hV : w.heap[vb]? = some (.cells #[.int .i64 p.f, .int .i64 p.t, .int .i64 p.tl, .int .i64 p.pr, .int .i64 p.id, .int .i64 p.fr, .bool p.mo, .bool p.dn, .string p.op, .string p.da] 32 (0, 0))) (hne : vb ≠ g) (hn : ps.length < 1000) (hi : i < ps.length) (hroom : ps.length + 1 ≤ c) :
    Calls Try.prog 55 #[.slice (some ⟨g, 0, none⟩) ps.length c, .int .i64 (i : Int), .slice (some ⟨vb, 0, none⟩) 1 1] w fun e w' => e = .returned (.slice (some ⟨g, 0, none⟩) (ps.length + 1) c) ∧ ∃ cur' : Array Value, w'.heap[g]? = some (.cells cur' 32 (0, 0)) ∧ cur'.size = c * 10 ∧ cur'.toList.take ((ps.length + 1) * 10) = flatP (insL ps i p) ∧ Turn (fun k => k = g) w w' := by
  have mixed : Try.prog.follows .mixedOrders = true := by kernel_rfl
  obtain ⟨n, hnn⟩ : ∃ n, n = ps.length := ⟨_, rfl⟩
  have hsa : w.shape? vb = some (32, 10) := by simp [World.shape?, hV]
  have hsb : w.shape? g = some (32, c * 10) := by simp [World.shape?, hb, hsz]
  have hov : ∀ lb cb, (callFunc 72 #[.slice (some ⟨vb, 0, none⟩) 1 1, .slice (some ⟨g, (i + 1) * 10, none⟩) lb cb]).run Try.prog w = .ok (.value (.bool false)) w := fun lb cb => by
    rw [run_callFunc_extern Try.func72 (by kernel_rfl) (by kernel_rfl) (by kernel_rfl) (e := Extern.SlicesOverlaps.overlaps #[36, 36] #[4]) (by kernel_rfl),
      Lib.run_overlaps_apart w 36 4 32 Try.underlying36 10 sizeK ⟨vb, 0, none⟩ ⟨g, (i + 1) * 10, none⟩ 1 1 lb cb hne 32 32 10 (c * 10) hsa hsb (by omega) (by simp [World.frozen?, hV]) (by simp [World.frozen?, hV])]
    rfl
  obtain ⟨X, hX⟩ : ∃ X, X = cur.toList := ⟨_, rfl⟩
  have hdl : (flatP (ps.drop i)).length = (n - i) * 10 := by rw [flatP_len, List.length_drop, hnn]
  have hal : (flatP (ps.take i)).length = i * 10 := by rw [flatP_len, List.length_take]; omega
  have hXe : X = flatP (ps.take i) ++ flatP (ps.drop i) ++ X.drop (n * 10) := by
    rw [← flatP_app, List.take_append_drop, ← htk, ← hX, hnn, List.take_append_drop]
  have hXl : X.length = c * 10 := by rw [hX]; simpa using hsz
  obtain ⟨C1, hC1⟩ : ∃ C1 : Array Value, C1 = (cur.toList.take ((i + 1) * 10) ++ flatP (ps.drop i) ++ cur.toList.drop ((i + 1) * 10 + (flatP (ps.drop i)).length)).toArray := ⟨_, rfl⟩
  have hC1l : C1.size = c * 10 := by rw [hC1]; simp [hdl, hsz]; omega
  have hcp1 : ∀ ty dc sc, (Builtin.copy_ #[36, 36] ty #[.slice (some ⟨g, (i + 1) * 10, none⟩) (n - i) dc, .slice (some ⟨g, i * 10, none⟩) (n + 1 - i) sc]).run Try.prog w.drew = .ok (goInt ((n - i : Nat) : Int)) (w.drew.setRow g C1) := fun ty dc sc => by
    rw [hC1]
    exact run_copy_rowk w.drew 36 36 ty 32 10 g ((i + 1) * 10) (n - i) dc ⟨g, i * 10, none⟩ (n + 1 - i) sc (n - i) cur 32 (flatP (ps.drop i)) Try.underlying36 infoK2 hb (by simp only [Nat.min_def]; split <;> omega) hdl
      (fun j u hu => by
        rw [Addr.add_lit]
        have hj : j < (n - i) * 10 := by rw [← hdl]; exact (List.getElem?_eq_some_iff.1 hu).1
        have h2 : (flatP ps)[i * 10 + j]? = some u := by
          rw [← List.take_append_drop i ps, flatP_app, List.getElem?_append_right (by rw [hal]; omega), hal, show i * 10 + j - i * 10 = j by omega]
          exact hu
        rw [← htk, List.getElem?_take_of_lt (by omega)] at h2
        show w.cell? _ = _
        simp [World.cell?, hb]
        simpa using h2)
      (by rw [hdl, hsz]; omega) (oneF _)
  have hb1 : (w.drew.setRow g C1).heap[g]? = some (.cells C1 32 (0, 0)) := setRow_heap w.drew g cur C1 32 (0, 0) hb
  obtain ⟨W1, hW1⟩ : ∃ W1, W1 = w.drew.setRow g C1 := ⟨_, rfl⟩
  rw [← hW1] at hcp1 hb1
  have hV1 : W1.heap[vb]? = some (.cells #[.int .i64 p.f, .int .i64 p.t, .int .i64 p.tl, .int .i64 p.pr, .int .i64 p.id, .int .i64 p.fr, .bool p.mo, .bool p.dn, .string p.op, .string p.da] 32 (0, 0)) := by rw [hW1, setRow_other w.drew g vb C1 hne]; exact hV
  obtain ⟨C2, hC2⟩ : ∃ C2 : Array Value, C2 = (C1.toList.take (i * 10) ++ p.L ++ C1.toList.drop (i * 10 + p.L.length)).toArray := ⟨_, rfl⟩
  have hC2l : C2.size = c * 10 := by rw [hC2]; simp [Pk.L_len, hC1l]; omega
  have hcp2 : ∀ ty dc, (Builtin.copy_ #[36, 36] ty #[.slice (some ⟨g, i * 10, none⟩) (n + 1 - i) dc, .slice (some ⟨vb, 0, none⟩) 1 1]).run Try.prog W1 = .ok (goInt 1) (W1.setRow g C2) := fun ty dc => by
    rw [hC2]
    exact run_copy_rowk W1 36 36 ty 32 10 g (i * 10) (n + 1 - i) dc ⟨vb, 0, none⟩ 1 1 1 C1 32 p.L Try.underlying36 infoK2 hb1 (by simp only [Nat.min_def]; split <;> omega) rfl
      (fun j u hu => by
        rw [Addr.add_lit, Nat.zero_add]
        simp [World.cell?, hV1]
        simpa [Pk.L] using hu)
      (by rw [Pk.L_len, hC1l]; omega) (oneL p)
  have hfin : ∃ cur' : Array Value, (W1.setRow g C2).heap[g]? = some (.cells cur' 32 (0, 0)) ∧ cur'.size = c * 10 ∧ cur'.toList.take ((n + 1) * 10) = flatP (insL ps i p) ∧ Turn (fun k => k = g) w (W1.setRow g C2) := by
    refine ⟨C2, setRow_heap W1 g C1 C2 32 (0, 0) hb1, hC2l, ?_, ?_⟩
    · have hm := mid_list X (flatP (ps.take i)) (flatP (ps.drop i)) (X.drop (n * 10)) p.L hXe (Pk.L_len p) (by rw [List.length_drop, hXl]; omega)
      have e1 : C2.toList = flatP (ps.take i) ++ p.L ++ flatP (ps.drop i) ++ (X.drop (n * 10)).drop 10 := by
        rw [← hm, hC2, hC1, hal, ← hX]
        simp only [List.toList_toArray]
        rw [show (i + 1) * 10 = i * 10 + 10 by omega]
      rw [e1]
      unfold insL
      rw [flatP_app, flatP_cons, ← List.append_assoc]
      exact List.take_left' (by rw [List.length_append, List.length_append, hal, Pk.L_len, hdl]; omega)
    · rw [hW1]
      exact ⟨rfl, rfl, rfl, by simp, fun k hk hs => by rw [setRow_other _ g k _ hs, setRow_other _ g k _ hs]; rfl⟩
  have HF : Hid (∃ cur' : Array Value, (W1.setRow g C2).heap[g]? = some (.cells cur' 32 (0, 0)) ∧ cur'.size = c * 10 ∧ cur'.toList.take ((n + 1) * 10) = flatP (insL ps i p) ∧ Turn (fun k => k = g) w (W1.setRow g C2)) := hfin
  rw [← hnn] at hi hroom hn ⊢
  clear hfin hV1 hb1 hC1 hC2 hC1l hC2l hXe hXl hX hdl hal hsa hsb hV hb htk hsz hW1 hnn
  have hz2 : ¬ ((i : Int) = (n : Int)) := by omega
  have hin : i ≤ n := by omega
  have hw1 : IntKind.i64.wrap ((i : Int) + 1) = (i : Int) + 1 := by rw [IntKind.wrap_i64]; omega
  have hb1 : (0 : Int) ≤ (i : Int) + 1 := by omega
  have htn : ((i : Int) + 1).toNat = i + 1 := by omega
  have hb2 : ¬ (c = i + 1) := by omega
  have hb3 : (i : Int) ≤ (n : Int) + 1 := by omega
  have hb4 : ¬ (c = i) := by omega
  have hc63 : c ≤ 9223372036854775807 := by unfold maxLen at hcm; omega
  go_enter Try.func55, Try.ntmps55
  go_wp2_with (simp only [hov])
  go_region_law_o (refine step_copy_runI rfl _ _ 36 36 rfl _ _ (by simp [Act.eval, Act.put]) (by simp [Act.eval, Act.put]) (hcp1 _ _ _) ?_)
  go_wp2_with (at_builtin; refine wpList_copy_runI _ rfl _ _ 36 36 rfl _ _ rfl rfl (hcp2 _ _) ?_)
  go_ret
  exact ⟨rfl, HF.out⟩
end Go.Proofs.Ytcjhniehbafhpaa
