/- The contracts of start, end, overlap, goesPast and clash of package frag. -/
import Derived.Test.YtcjhniehbafhpaaFb
namespace Go.Proofs.Ytcjhniehbafhpaa
open Go.RowKit Go.Maps
set_option maxRecDepth 100000
set_option linter.unusedVariables false
set_option linter.unusedSimpArgs false

theorem keep20 {w W x : World} {a0 : Addr} {a1 : Addr} {a2 : Addr} {a3 : Addr} {a4 : Addr} {a5 : Addr} {a6 : Addr} {a7 : Addr} {a8 : Addr} {a9 : Addr} {a10 : Addr} {a11 : Addr} {a12 : Addr} {a13 : Addr} {a14 : Addr} {a15 : Addr} {a16 : Addr} {a17 : Addr} {a18 : Addr} {a19 : Addr} {v0 : Value} {v1 : Value} {v2 : Value} {v3 : Value} {v4 : Value} {v5 : Value} {v6 : Value} {v7 : Value} {v8 : Value} {v9 : Value} {v10 : Value} {v11 : Value} {v12 : Value} {v13 : Value} {v14 : Value} {v15 : Value} {v16 : Value} {v17 : Value} {v18 : Value} {v19 : Value} (hb : Below W.heap.size W x) (h : Below w.heap.size w W ∧ W.cell? a0 = some v0 ∧ W.cell? a1 = some v1 ∧ W.cell? a2 = some v2 ∧ W.cell? a3 = some v3 ∧ W.cell? a4 = some v4 ∧ W.cell? a5 = some v5 ∧ W.cell? a6 = some v6 ∧ W.cell? a7 = some v7 ∧ W.cell? a8 = some v8 ∧ W.cell? a9 = some v9 ∧ W.cell? a10 = some v10 ∧ W.cell? a11 = some v11 ∧ W.cell? a12 = some v12 ∧ W.cell? a13 = some v13 ∧ W.cell? a14 = some v14 ∧ W.cell? a15 = some v15 ∧ W.cell? a16 = some v16 ∧ W.cell? a17 = some v17 ∧ W.cell? a18 = some v18 ∧ W.cell? a19 = some v19) : Below w.heap.size w x ∧ x.cell? a0 = some v0 ∧ x.cell? a1 = some v1 ∧ x.cell? a2 = some v2 ∧ x.cell? a3 = some v3 ∧ x.cell? a4 = some v4 ∧ x.cell? a5 = some v5 ∧ x.cell? a6 = some v6 ∧ x.cell? a7 = some v7 ∧ x.cell? a8 = some v8 ∧ x.cell? a9 = some v9 ∧ x.cell? a10 = some v10 ∧ x.cell? a11 = some v11 ∧ x.cell? a12 = some v12 ∧ x.cell? a13 = some v13 ∧ x.cell? a14 = some v14 ∧ x.cell? a15 = some v15 ∧ x.cell? a16 = some v16 ∧ x.cell? a17 = some v17 ∧ x.cell? a18 = some v18 ∧ x.cell? a19 = some v19 :=
  ⟨bt h.1 hb, later hb h.2.1, later hb h.2.2.1, later hb h.2.2.2.1, later hb h.2.2.2.2.1, later hb h.2.2.2.2.2.1, later hb h.2.2.2.2.2.2.1, later hb h.2.2.2.2.2.2.2.1, later hb h.2.2.2.2.2.2.2.2.1, later hb h.2.2.2.2.2.2.2.2.2.1, later hb h.2.2.2.2.2.2.2.2.2.2.1, later hb h.2.2.2.2.2.2.2.2.2.2.2.1, later hb h.2.2.2.2.2.2.2.2.2.2.2.2.1, later hb h.2.2.2.2.2.2.2.2.2.2.2.2.2.1, later hb h.2.2.2.2.2.2.2.2.2.2.2.2.2.2.1, later hb h.2.2.2.2.2.2.2.2.2.2.2.2.2.2.2.1, later hb h.2.2.2.2.2.2.2.2.2.2.2.2.2.2.2.2.1, later hb h.2.2.2.2.2.2.2.2.2.2.2.2.2.2.2.2.2.1, later hb h.2.2.2.2.2.2.2.2.2.2.2.2.2.2.2.2.2.2.1, later hb h.2.2.2.2.2.2.2.2.2.2.2.2.2.2.2.2.2.2.2.1, later hb h.2.2.2.2.2.2.2.2.2.2.2.2.2.2.2.2.2.2.2.2⟩
theorem keep10 {w W x : World} {a0 : Addr} {a1 : Addr} {a2 : Addr} {a3 : Addr} {a4 : Addr} {a5 : Addr} {a6 : Addr} {a7 : Addr} {a8 : Addr} {a9 : Addr} {v0 : Value} {v1 : Value} {v2 : Value} {v3 : Value} {v4 : Value} {v5 : Value} {v6 : Value} {v7 : Value} {v8 : Value} {v9 : Value} (hb : Below W.heap.size W x) (h : Below w.heap.size w W ∧ W.cell? a0 = some v0 ∧ W.cell? a1 = some v1 ∧ W.cell? a2 = some v2 ∧ W.cell? a3 = some v3 ∧ W.cell? a4 = some v4 ∧ W.cell? a5 = some v5 ∧ W.cell? a6 = some v6 ∧ W.cell? a7 = some v7 ∧ W.cell? a8 = some v8 ∧ W.cell? a9 = some v9) : Below w.heap.size w x ∧ x.cell? a0 = some v0 ∧ x.cell? a1 = some v1 ∧ x.cell? a2 = some v2 ∧ x.cell? a3 = some v3 ∧ x.cell? a4 = some v4 ∧ x.cell? a5 = some v5 ∧ x.cell? a6 = some v6 ∧ x.cell? a7 = some v7 ∧ x.cell? a8 = some v8 ∧ x.cell? a9 = some v9 :=
  ⟨bt h.1 hb, later hb h.2.1, later hb h.2.2.1, later hb h.2.2.2.1, later hb h.2.2.2.2.1, later hb h.2.2.2.2.2.1, later hb h.2.2.2.2.2.2.1, later hb h.2.2.2.2.2.2.2.1, later hb h.2.2.2.2.2.2.2.2.1, later hb h.2.2.2.2.2.2.2.2.2.1, later hb h.2.2.2.2.2.2.2.2.2.2⟩
def Pk.V (p : Pk) : Value := .agg #[.int .i64 p.f, .int .i64 p.t, .int .i64 p.tl, .int .i64 p.pr, .int .i64 p.id, .int .i64 p.fr, .bool p.mo, .bool p.dn, .string p.op, .string p.da]
def Pk.st (p : Pk) : Int := p.fr * 8
def Pk.en (p : Pk) : Int := p.fr * 8 + (p.da.size : Int)
/-- The place and the data are not too great. -/
structure Pk.Fine (p : Pk) : Prop where
  f0 : 0 ≤ p.fr
  f1 : p.fr ≤ 8191
  dl : (p.da.size : Int) ≤ 65535
  ol : (p.op.size : Int) ≤ 40
def ovB (p q : Pk) : Bool := decide (p.st < q.en) && decide (q.st < p.en)
def pastB (p q : Pk) : Bool := !q.mo && decide (q.en < p.en)
def clashB (p q : Pk) : Bool := ovB p q || pastB p q || pastB q p
theorem start_any (p : Pk) (w : World) (h : p.Fine) : Calls Try.prog 56 #[.agg #[.int .i64 p.f, .int .i64 p.t, .int .i64 p.tl, .int .i64 p.pr, .int .i64 p.id, .int .i64 p.fr, .bool p.mo, .bool p.dn, .string p.op, .string p.da]] w fun e w' => e = .returned (.int .i64 (p.fr * 8)) ∧ Below w.heap.size w w' := by
  obtain ⟨h0, h1, h2, h3⟩ := h
  have hA := At.box w #[.int .i64 p.f, .int .i64 p.t, .int .i64 p.tl, .int .i64 p.pr, .int .i64 p.id, .int .i64 p.fr, .bool p.mo, .bool p.dn, .string p.op, .string p.da] 32
  have hl := bel1 w (.cells #[.int .i64 p.f, .int .i64 p.t, .int .i64 p.tl, .int .i64 p.pr, .int .i64 p.id, .int .i64 p.fr, .bool p.mo, .bool p.dn, .string p.op, .string p.da] 32)
  obtain ⟨⟨c0, c1, c2, c3, c4, c5, c6, c7, c8, c9⟩, -, -⟩ := hA.ten
  go_enter Try.func56, Try.ntmps56
  go_wp2
  go_ret
  exact ⟨by simp <;> omega, hl⟩
set_option maxHeartbeats 4000000 in
theorem end_any (p : Pk) (w : World) (h : p.Fine) : Calls Try.prog 50 #[.agg #[.int .i64 p.f, .int .i64 p.t, .int .i64 p.tl, .int .i64 p.pr, .int .i64 p.id, .int .i64 p.fr, .bool p.mo, .bool p.dn, .string p.op, .string p.da]] w fun e w' => e = .returned (.int .i64 (p.fr * 8 + (p.da.size : Int))) ∧ Below w.heap.size w w' := by
  have h0 := h.f0
  have h1 := h.f1
  have h2 := h.dl
  have hw : IntKind.i64.wrap (p.fr * 8 + (p.da.size : Int)) = p.fr * 8 + (p.da.size : Int) := by rw [IntKind.wrap_i64]; omega
  have hA := At.box w #[.int .i64 p.f, .int .i64 p.t, .int .i64 p.tl, .int .i64 p.pr, .int .i64 p.id, .int .i64 p.fr, .bool p.mo, .bool p.dn, .string p.op, .string p.da] 32
  have hl := bel1 w (.cells #[.int .i64 p.f, .int .i64 p.t, .int .i64 p.tl, .int .i64 p.pr, .int .i64 p.id, .int .i64 p.fr, .bool p.mo, .bool p.dn, .string p.op, .string p.da] 32)
  obtain ⟨hx, -, -⟩ := hA.ten
  have hx5 := And.intro hl hx
  clear hA hl hx
  go_enter Try.func50, Try.ntmps50
  go_upto_region 1 with fail
  generalize w.alloc (.cells #[.int .i64 p.f, .int .i64 p.t, .int .i64 p.tl, .int .i64 p.pr, .int .i64 p.id, .int .i64 p.fr, .bool p.mo, .bool p.dn, .string p.op, .string p.da] 32) = W0 at hx5 ⊢
  go_region_held3 (fun W => Below w.heap.size w W ∧ W.cell? ⟨w.heap.size, 0, none⟩ = some (.int .i64 p.f) ∧ W.cell? ⟨w.heap.size, 1, none⟩ = some (.int .i64 p.t) ∧ W.cell? ⟨w.heap.size, 2, none⟩ = some (.int .i64 p.tl) ∧ W.cell? ⟨w.heap.size, 3, none⟩ = some (.int .i64 p.pr) ∧ W.cell? ⟨w.heap.size, 4, none⟩ = some (.int .i64 p.id) ∧ W.cell? ⟨w.heap.size, 5, none⟩ = some (.int .i64 p.fr) ∧ W.cell? ⟨w.heap.size, 6, none⟩ = some (.bool p.mo) ∧ W.cell? ⟨w.heap.size, 7, none⟩ = some (.bool p.dn) ∧ W.cell? ⟨w.heap.size, 8, none⟩ = some (.string p.op) ∧ W.cell? ⟨w.heap.size, 9, none⟩ = some (.string p.da)) (first | assumption | exact ⟨hx5.1.drew, hx5.2.1, hx5.2.2.1, hx5.2.2.2.1, hx5.2.2.2.2.1, hx5.2.2.2.2.2.1, hx5.2.2.2.2.2.2.1, hx5.2.2.2.2.2.2.2.1, hx5.2.2.2.2.2.2.2.2.1, hx5.2.2.2.2.2.2.2.2.2.1, hx5.2.2.2.2.2.2.2.2.2.2⟩ | (refine keep10 hb ?_; assumption)) ((go_at_call 56; refine (start_any p _ h).mono ?_; rintro e w' ⟨rfl, hb⟩))
  all_goals
    go_wp2
    go_ret
    rename_i hq
    exact ⟨by first | rfl | (simp <;> omega), hq.1⟩
set_option maxHeartbeats 4000000 in
theorem overlap_any (p q : Pk) (w : World) (h : p.Fine) (k : q.Fine) : Calls Try.prog 70 #[.agg #[.int .i64 p.f, .int .i64 p.t, .int .i64 p.tl, .int .i64 p.pr, .int .i64 p.id, .int .i64 p.fr, .bool p.mo, .bool p.dn, .string p.op, .string p.da], .agg #[.int .i64 q.f, .int .i64 q.t, .int .i64 q.tl, .int .i64 q.pr, .int .i64 q.id, .int .i64 q.fr, .bool q.mo, .bool q.dn, .string q.op, .string q.da]] w fun e w' => e = .returned (.bool (ovB p q)) ∧ Below w.heap.size w w' := by
  have h0 := h.f0
  have h1 := h.f1
  have h2 := h.dl
  have k0 := k.f0
  have k1 := k.f1
  have k2 := k.dl
  have hA := (At.box w #[.int .i64 p.f, .int .i64 p.t, .int .i64 p.tl, .int .i64 p.pr, .int .i64 p.id, .int .i64 p.fr, .bool p.mo, .bool p.dn, .string p.op, .string p.da] 32).later (bel1 _ (.cells #[.int .i64 q.f, .int .i64 q.t, .int .i64 q.tl, .int .i64 q.pr, .int .i64 q.id, .int .i64 q.fr, .bool q.mo, .bool q.dn, .string q.op, .string q.da] 32))
  have hB := At.box2 w (.cells #[.int .i64 p.f, .int .i64 p.t, .int .i64 p.tl, .int .i64 p.pr, .int .i64 p.id, .int .i64 p.fr, .bool p.mo, .bool p.dn, .string p.op, .string p.da] 32) #[.int .i64 q.f, .int .i64 q.t, .int .i64 q.tl, .int .i64 q.pr, .int .i64 q.id, .int .i64 q.fr, .bool q.mo, .bool q.dn, .string q.op, .string q.da] 32
  have hl := bt (bel1 w (.cells #[.int .i64 p.f, .int .i64 p.t, .int .i64 p.tl, .int .i64 p.pr, .int .i64 p.id, .int .i64 p.fr, .bool p.mo, .bool p.dn, .string p.op, .string p.da] 32)) (bel1 _ (.cells #[.int .i64 q.f, .int .i64 q.t, .int .i64 q.tl, .int .i64 q.pr, .int .i64 q.id, .int .i64 q.fr, .bool q.mo, .bool q.dn, .string q.op, .string q.da] 32))
  obtain ⟨⟨c0, c1, c2, c3, c4, c5, c6, c7, c8, c9⟩, -, -⟩ := hA.ten
  obtain ⟨⟨d0, d1, d2, d3, d4, d5, d6, d7, d8, d9⟩, -, -⟩ := hB.ten
  have hx5 : Below w.heap.size w ((w.alloc (.cells #[.int .i64 p.f, .int .i64 p.t, .int .i64 p.tl, .int .i64 p.pr, .int .i64 p.id, .int .i64 p.fr, .bool p.mo, .bool p.dn, .string p.op, .string p.da] 32)).alloc (.cells #[.int .i64 q.f, .int .i64 q.t, .int .i64 q.tl, .int .i64 q.pr, .int .i64 q.id, .int .i64 q.fr, .bool q.mo, .bool q.dn, .string q.op, .string q.da] 32)) ∧ ((w.alloc (.cells #[.int .i64 p.f, .int .i64 p.t, .int .i64 p.tl, .int .i64 p.pr, .int .i64 p.id, .int .i64 p.fr, .bool p.mo, .bool p.dn, .string p.op, .string p.da] 32)).alloc (.cells #[.int .i64 q.f, .int .i64 q.t, .int .i64 q.tl, .int .i64 q.pr, .int .i64 q.id, .int .i64 q.fr, .bool q.mo, .bool q.dn, .string q.op, .string q.da] 32)).cell? ⟨w.heap.size, 0, none⟩ = some (.int .i64 p.f) ∧ ((w.alloc (.cells #[.int .i64 p.f, .int .i64 p.t, .int .i64 p.tl, .int .i64 p.pr, .int .i64 p.id, .int .i64 p.fr, .bool p.mo, .bool p.dn, .string p.op, .string p.da] 32)).alloc (.cells #[.int .i64 q.f, .int .i64 q.t, .int .i64 q.tl, .int .i64 q.pr, .int .i64 q.id, .int .i64 q.fr, .bool q.mo, .bool q.dn, .string q.op, .string q.da] 32)).cell? ⟨w.heap.size, 1, none⟩ = some (.int .i64 p.t) ∧ ((w.alloc (.cells #[.int .i64 p.f, .int .i64 p.t, .int .i64 p.tl, .int .i64 p.pr, .int .i64 p.id, .int .i64 p.fr, .bool p.mo, .bool p.dn, .string p.op, .string p.da] 32)).alloc (.cells #[.int .i64 q.f, .int .i64 q.t, .int .i64 q.tl, .int .i64 q.pr, .int .i64 q.id, .int .i64 q.fr, .bool q.mo, .bool q.dn, .string q.op, .string q.da] 32)).cell? ⟨w.heap.size, 2, none⟩ = some (.int .i64 p.tl) ∧ ((w.alloc (.cells #[.int .i64 p.f, .int .i64 p.t, .int .i64 p.tl, .int .i64 p.pr, .int .i64 p.id, .int .i64 p.fr, .bool p.mo, .bool p.dn, .string p.op, .string p.da] 32)).alloc (.cells #[.int .i64 q.f, .int .i64 q.t, .int .i64 q.tl, .int .i64 q.pr, .int .i64 q.id, .int .i64 q.fr, .bool q.mo, .bool q.dn, .string q.op, .string q.da] 32)).cell? ⟨w.heap.size, 3, none⟩ = some (.int .i64 p.pr) ∧ ((w.alloc (.cells #[.int .i64 p.f, .int .i64 p.t, .int .i64 p.tl, .int .i64 p.pr, .int .i64 p.id, .int .i64 p.fr, .bool p.mo, .bool p.dn, .string p.op, .string p.da] 32)).alloc (.cells #[.int .i64 q.f, .int .i64 q.t, .int .i64 q.tl, .int .i64 q.pr, .int .i64 q.id, .int .i64 q.fr, .bool q.mo, .bool q.dn, .string q.op, .string q.da] 32)).cell? ⟨w.heap.size, 4, none⟩ = some (.int .i64 p.id) ∧ ((w.alloc (.cells #[.int .i64 p.f, .int .i64 p.t, .int .i64 p.tl, .int .i64 p.pr, .int .i64 p.id, .int .i64 p.fr, .bool p.mo, .bool p.dn, .string p.op, .string p.da] 32)).alloc (.cells #[.int .i64 q.f, .int .i64 q.t, .int .i64 q.tl, .int .i64 q.pr, .int .i64 q.id, .int .i64 q.fr, .bool q.mo, .bool q.dn, .string q.op, .string q.da] 32)).cell? ⟨w.heap.size, 5, none⟩ = some (.int .i64 p.fr) ∧ ((w.alloc (.cells #[.int .i64 p.f, .int .i64 p.t, .int .i64 p.tl, .int .i64 p.pr, .int .i64 p.id, .int .i64 p.fr, .bool p.mo, .bool p.dn, .string p.op, .string p.da] 32)).alloc (.cells #[.int .i64 q.f, .int .i64 q.t, .int .i64 q.tl, .int .i64 q.pr, .int .i64 q.id, .int .i64 q.fr, .bool q.mo, .bool q.dn, .string q.op, .string q.da] 32)).cell? ⟨w.heap.size, 6, none⟩ = some (.bool p.mo) ∧ ((w.alloc (.cells #[.int .i64 p.f, .int .i64 p.t, .int .i64 p.tl, .int .i64 p.pr, .int .i64 p.id, .int .i64 p.fr, .bool p.mo, .bool p.dn, .string p.op, .string p.da] 32)).alloc (.cells #[.int .i64 q.f, .int .i64 q.t, .int .i64 q.tl, .int .i64 q.pr, .int .i64 q.id, .int .i64 q.fr, .bool q.mo, .bool q.dn, .string q.op, .string q.da] 32)).cell? ⟨w.heap.size, 7, none⟩ = some (.bool p.dn) ∧ ((w.alloc (.cells #[.int .i64 p.f, .int .i64 p.t, .int .i64 p.tl, .int .i64 p.pr, .int .i64 p.id, .int .i64 p.fr, .bool p.mo, .bool p.dn, .string p.op, .string p.da] 32)).alloc (.cells #[.int .i64 q.f, .int .i64 q.t, .int .i64 q.tl, .int .i64 q.pr, .int .i64 q.id, .int .i64 q.fr, .bool q.mo, .bool q.dn, .string q.op, .string q.da] 32)).cell? ⟨w.heap.size, 8, none⟩ = some (.string p.op) ∧ ((w.alloc (.cells #[.int .i64 p.f, .int .i64 p.t, .int .i64 p.tl, .int .i64 p.pr, .int .i64 p.id, .int .i64 p.fr, .bool p.mo, .bool p.dn, .string p.op, .string p.da] 32)).alloc (.cells #[.int .i64 q.f, .int .i64 q.t, .int .i64 q.tl, .int .i64 q.pr, .int .i64 q.id, .int .i64 q.fr, .bool q.mo, .bool q.dn, .string q.op, .string q.da] 32)).cell? ⟨w.heap.size, 9, none⟩ = some (.string p.da) ∧ ((w.alloc (.cells #[.int .i64 p.f, .int .i64 p.t, .int .i64 p.tl, .int .i64 p.pr, .int .i64 p.id, .int .i64 p.fr, .bool p.mo, .bool p.dn, .string p.op, .string p.da] 32)).alloc (.cells #[.int .i64 q.f, .int .i64 q.t, .int .i64 q.tl, .int .i64 q.pr, .int .i64 q.id, .int .i64 q.fr, .bool q.mo, .bool q.dn, .string q.op, .string q.da] 32)).cell? ⟨w.heap.size + 1, 0, none⟩ = some (.int .i64 q.f) ∧ ((w.alloc (.cells #[.int .i64 p.f, .int .i64 p.t, .int .i64 p.tl, .int .i64 p.pr, .int .i64 p.id, .int .i64 p.fr, .bool p.mo, .bool p.dn, .string p.op, .string p.da] 32)).alloc (.cells #[.int .i64 q.f, .int .i64 q.t, .int .i64 q.tl, .int .i64 q.pr, .int .i64 q.id, .int .i64 q.fr, .bool q.mo, .bool q.dn, .string q.op, .string q.da] 32)).cell? ⟨w.heap.size + 1, 1, none⟩ = some (.int .i64 q.t) ∧ ((w.alloc (.cells #[.int .i64 p.f, .int .i64 p.t, .int .i64 p.tl, .int .i64 p.pr, .int .i64 p.id, .int .i64 p.fr, .bool p.mo, .bool p.dn, .string p.op, .string p.da] 32)).alloc (.cells #[.int .i64 q.f, .int .i64 q.t, .int .i64 q.tl, .int .i64 q.pr, .int .i64 q.id, .int .i64 q.fr, .bool q.mo, .bool q.dn, .string q.op, .string q.da] 32)).cell? ⟨w.heap.size + 1, 2, none⟩ = some (.int .i64 q.tl) ∧ ((w.alloc (.cells #[.int .i64 p.f, .int .i64 p.t, .int .i64 p.tl, .int .i64 p.pr, .int .i64 p.id, .int .i64 p.fr, .bool p.mo, .bool p.dn, .string p.op, .string p.da] 32)).alloc (.cells #[.int .i64 q.f, .int .i64 q.t, .int .i64 q.tl, .int .i64 q.pr, .int .i64 q.id, .int .i64 q.fr, .bool q.mo, .bool q.dn, .string q.op, .string q.da] 32)).cell? ⟨w.heap.size + 1, 3, none⟩ = some (.int .i64 q.pr) ∧ ((w.alloc (.cells #[.int .i64 p.f, .int .i64 p.t, .int .i64 p.tl, .int .i64 p.pr, .int .i64 p.id, .int .i64 p.fr, .bool p.mo, .bool p.dn, .string p.op, .string p.da] 32)).alloc (.cells #[.int .i64 q.f, .int .i64 q.t, .int .i64 q.tl, .int .i64 q.pr, .int .i64 q.id, .int .i64 q.fr, .bool q.mo, .bool q.dn, .string q.op, .string q.da] 32)).cell? ⟨w.heap.size + 1, 4, none⟩ = some (.int .i64 q.id) ∧ ((w.alloc (.cells #[.int .i64 p.f, .int .i64 p.t, .int .i64 p.tl, .int .i64 p.pr, .int .i64 p.id, .int .i64 p.fr, .bool p.mo, .bool p.dn, .string p.op, .string p.da] 32)).alloc (.cells #[.int .i64 q.f, .int .i64 q.t, .int .i64 q.tl, .int .i64 q.pr, .int .i64 q.id, .int .i64 q.fr, .bool q.mo, .bool q.dn, .string q.op, .string q.da] 32)).cell? ⟨w.heap.size + 1, 5, none⟩ = some (.int .i64 q.fr) ∧ ((w.alloc (.cells #[.int .i64 p.f, .int .i64 p.t, .int .i64 p.tl, .int .i64 p.pr, .int .i64 p.id, .int .i64 p.fr, .bool p.mo, .bool p.dn, .string p.op, .string p.da] 32)).alloc (.cells #[.int .i64 q.f, .int .i64 q.t, .int .i64 q.tl, .int .i64 q.pr, .int .i64 q.id, .int .i64 q.fr, .bool q.mo, .bool q.dn, .string q.op, .string q.da] 32)).cell? ⟨w.heap.size + 1, 6, none⟩ = some (.bool q.mo) ∧ ((w.alloc (.cells #[.int .i64 p.f, .int .i64 p.t, .int .i64 p.tl, .int .i64 p.pr, .int .i64 p.id, .int .i64 p.fr, .bool p.mo, .bool p.dn, .string p.op, .string p.da] 32)).alloc (.cells #[.int .i64 q.f, .int .i64 q.t, .int .i64 q.tl, .int .i64 q.pr, .int .i64 q.id, .int .i64 q.fr, .bool q.mo, .bool q.dn, .string q.op, .string q.da] 32)).cell? ⟨w.heap.size + 1, 7, none⟩ = some (.bool q.dn) ∧ ((w.alloc (.cells #[.int .i64 p.f, .int .i64 p.t, .int .i64 p.tl, .int .i64 p.pr, .int .i64 p.id, .int .i64 p.fr, .bool p.mo, .bool p.dn, .string p.op, .string p.da] 32)).alloc (.cells #[.int .i64 q.f, .int .i64 q.t, .int .i64 q.tl, .int .i64 q.pr, .int .i64 q.id, .int .i64 q.fr, .bool q.mo, .bool q.dn, .string q.op, .string q.da] 32)).cell? ⟨w.heap.size + 1, 8, none⟩ = some (.string q.op) ∧ ((w.alloc (.cells #[.int .i64 p.f, .int .i64 p.t, .int .i64 p.tl, .int .i64 p.pr, .int .i64 p.id, .int .i64 p.fr, .bool p.mo, .bool p.dn, .string p.op, .string p.da] 32)).alloc (.cells #[.int .i64 q.f, .int .i64 q.t, .int .i64 q.tl, .int .i64 q.pr, .int .i64 q.id, .int .i64 q.fr, .bool q.mo, .bool q.dn, .string q.op, .string q.da] 32)).cell? ⟨w.heap.size + 1, 9, none⟩ = some (.string q.da) := ⟨hl, c0, c1, c2, c3, c4, c5, c6, c7, c8, c9, d0, d1, d2, d3, d4, d5, d6, d7, d8, d9⟩
  clear hA hB hl c0 c1 c2 c3 c4 c5 c6 c7 c8 c9 d0 d1 d2 d3 d4 d5 d6 d7 d8 d9
  by_cases hg : p.fr * 8 < q.fr * 8 + (q.da.size : Int)
  · have e1 : ovB p q = decide (q.fr * 8 < p.fr * 8 + (p.da.size : Int)) := by
      unfold ovB Pk.st Pk.en
      rw [decide_eq_true hg, Bool.true_and]
    rw [e1]
    clear e1
    go_enter Try.func70, Try.ntmps70
    go_upto_region 1 with fail
    generalize (w.alloc (.cells #[.int .i64 p.f, .int .i64 p.t, .int .i64 p.tl, .int .i64 p.pr, .int .i64 p.id, .int .i64 p.fr, .bool p.mo, .bool p.dn, .string p.op, .string p.da] 32)).alloc (.cells #[.int .i64 q.f, .int .i64 q.t, .int .i64 q.tl, .int .i64 q.pr, .int .i64 q.id, .int .i64 q.fr, .bool q.mo, .bool q.dn, .string q.op, .string q.da] 32) = W0 at hx5 ⊢
    go_region_held3 (fun W => Below w.heap.size w W ∧ W.cell? ⟨w.heap.size, 0, none⟩ = some (.int .i64 p.f) ∧ W.cell? ⟨w.heap.size, 1, none⟩ = some (.int .i64 p.t) ∧ W.cell? ⟨w.heap.size, 2, none⟩ = some (.int .i64 p.tl) ∧ W.cell? ⟨w.heap.size, 3, none⟩ = some (.int .i64 p.pr) ∧ W.cell? ⟨w.heap.size, 4, none⟩ = some (.int .i64 p.id) ∧ W.cell? ⟨w.heap.size, 5, none⟩ = some (.int .i64 p.fr) ∧ W.cell? ⟨w.heap.size, 6, none⟩ = some (.bool p.mo) ∧ W.cell? ⟨w.heap.size, 7, none⟩ = some (.bool p.dn) ∧ W.cell? ⟨w.heap.size, 8, none⟩ = some (.string p.op) ∧ W.cell? ⟨w.heap.size, 9, none⟩ = some (.string p.da) ∧ W.cell? ⟨w.heap.size + 1, 0, none⟩ = some (.int .i64 q.f) ∧ W.cell? ⟨w.heap.size + 1, 1, none⟩ = some (.int .i64 q.t) ∧ W.cell? ⟨w.heap.size + 1, 2, none⟩ = some (.int .i64 q.tl) ∧ W.cell? ⟨w.heap.size + 1, 3, none⟩ = some (.int .i64 q.pr) ∧ W.cell? ⟨w.heap.size + 1, 4, none⟩ = some (.int .i64 q.id) ∧ W.cell? ⟨w.heap.size + 1, 5, none⟩ = some (.int .i64 q.fr) ∧ W.cell? ⟨w.heap.size + 1, 6, none⟩ = some (.bool q.mo) ∧ W.cell? ⟨w.heap.size + 1, 7, none⟩ = some (.bool q.dn) ∧ W.cell? ⟨w.heap.size + 1, 8, none⟩ = some (.string q.op) ∧ W.cell? ⟨w.heap.size + 1, 9, none⟩ = some (.string q.da)) (first | assumption | exact ⟨hx5.1.drew, hx5.2.1, hx5.2.2.1, hx5.2.2.2.1, hx5.2.2.2.2.1, hx5.2.2.2.2.2.1, hx5.2.2.2.2.2.2.1, hx5.2.2.2.2.2.2.2.1, hx5.2.2.2.2.2.2.2.2.1, hx5.2.2.2.2.2.2.2.2.2.1, hx5.2.2.2.2.2.2.2.2.2.2.1, hx5.2.2.2.2.2.2.2.2.2.2.2.1, hx5.2.2.2.2.2.2.2.2.2.2.2.2.1, hx5.2.2.2.2.2.2.2.2.2.2.2.2.2.1, hx5.2.2.2.2.2.2.2.2.2.2.2.2.2.2.1, hx5.2.2.2.2.2.2.2.2.2.2.2.2.2.2.2.1, hx5.2.2.2.2.2.2.2.2.2.2.2.2.2.2.2.2.1, hx5.2.2.2.2.2.2.2.2.2.2.2.2.2.2.2.2.2.1, hx5.2.2.2.2.2.2.2.2.2.2.2.2.2.2.2.2.2.2.1, hx5.2.2.2.2.2.2.2.2.2.2.2.2.2.2.2.2.2.2.2.1, hx5.2.2.2.2.2.2.2.2.2.2.2.2.2.2.2.2.2.2.2.2⟩ | (refine keep20 hb ?_; assumption)) (first | (go_at_call 56; refine (start_any p _ h).mono ?_; rintro e w' ⟨rfl, hb⟩) | (go_at_call 56; refine (start_any q _ k).mono ?_; rintro e w' ⟨rfl, hb⟩) | (go_at_call 50; refine (end_any p _ h).mono ?_; rintro e w' ⟨rfl, hb⟩) | (go_at_call 50; refine (end_any q _ k).mono ?_; rintro e w' ⟨rfl, hb⟩))
    all_goals
      go_wp2
      go_ret
      rename_i hq
      exact ⟨by first | rfl | (simp <;> omega), hq.1⟩
  · have e1 : ovB p q = false := by
      unfold ovB Pk.st Pk.en
      rw [decide_eq_false hg, Bool.false_and]
    rw [e1]
    clear e1
    have hgd : decide (p.fr * 8 < q.fr * 8 + (q.da.size : Int)) = false := decide_eq_false hg
    have hge : q.fr * 8 + (q.da.size : Int) ≤ p.fr * 8 := by omega
    go_enter Try.func70, Try.ntmps70
    go_upto_region 1 with fail
    generalize (w.alloc (.cells #[.int .i64 p.f, .int .i64 p.t, .int .i64 p.tl, .int .i64 p.pr, .int .i64 p.id, .int .i64 p.fr, .bool p.mo, .bool p.dn, .string p.op, .string p.da] 32)).alloc (.cells #[.int .i64 q.f, .int .i64 q.t, .int .i64 q.tl, .int .i64 q.pr, .int .i64 q.id, .int .i64 q.fr, .bool q.mo, .bool q.dn, .string q.op, .string q.da] 32) = W0 at hx5 ⊢
    refine wp_region_held_drew (S := (fun W => Below w.heap.size w W ∧ W.cell? ⟨w.heap.size, 0, none⟩ = some (.int .i64 p.f) ∧ W.cell? ⟨w.heap.size, 1, none⟩ = some (.int .i64 p.t) ∧ W.cell? ⟨w.heap.size, 2, none⟩ = some (.int .i64 p.tl) ∧ W.cell? ⟨w.heap.size, 3, none⟩ = some (.int .i64 p.pr) ∧ W.cell? ⟨w.heap.size, 4, none⟩ = some (.int .i64 p.id) ∧ W.cell? ⟨w.heap.size, 5, none⟩ = some (.int .i64 p.fr) ∧ W.cell? ⟨w.heap.size, 6, none⟩ = some (.bool p.mo) ∧ W.cell? ⟨w.heap.size, 7, none⟩ = some (.bool p.dn) ∧ W.cell? ⟨w.heap.size, 8, none⟩ = some (.string p.op) ∧ W.cell? ⟨w.heap.size, 9, none⟩ = some (.string p.da) ∧ W.cell? ⟨w.heap.size + 1, 0, none⟩ = some (.int .i64 q.f) ∧ W.cell? ⟨w.heap.size + 1, 1, none⟩ = some (.int .i64 q.t) ∧ W.cell? ⟨w.heap.size + 1, 2, none⟩ = some (.int .i64 q.tl) ∧ W.cell? ⟨w.heap.size + 1, 3, none⟩ = some (.int .i64 q.pr) ∧ W.cell? ⟨w.heap.size + 1, 4, none⟩ = some (.int .i64 q.id) ∧ W.cell? ⟨w.heap.size + 1, 5, none⟩ = some (.int .i64 q.fr) ∧ W.cell? ⟨w.heap.size + 1, 6, none⟩ = some (.bool q.mo) ∧ W.cell? ⟨w.heap.size + 1, 7, none⟩ = some (.bool q.dn) ∧ W.cell? ⟨w.heap.size + 1, 8, none⟩ = some (.string q.op) ∧ W.cell? ⟨w.heap.size + 1, 9, none⟩ = some (.string q.da))) (by kernel_rfl) ?_ (fun hHeld => ?_)
    · first | exact ⟨hx5.1.drew, hx5.2.1, hx5.2.2.1, hx5.2.2.2.1, hx5.2.2.2.2.1, hx5.2.2.2.2.2.1, hx5.2.2.2.2.2.2.1, hx5.2.2.2.2.2.2.2.1, hx5.2.2.2.2.2.2.2.2.1, hx5.2.2.2.2.2.2.2.2.2.1, hx5.2.2.2.2.2.2.2.2.2.2.1, hx5.2.2.2.2.2.2.2.2.2.2.2.1, hx5.2.2.2.2.2.2.2.2.2.2.2.2.1, hx5.2.2.2.2.2.2.2.2.2.2.2.2.2.1, hx5.2.2.2.2.2.2.2.2.2.2.2.2.2.2.1, hx5.2.2.2.2.2.2.2.2.2.2.2.2.2.2.2.1, hx5.2.2.2.2.2.2.2.2.2.2.2.2.2.2.2.2.1, hx5.2.2.2.2.2.2.2.2.2.2.2.2.2.2.2.2.2.1, hx5.2.2.2.2.2.2.2.2.2.2.2.2.2.2.2.2.2.2.1, hx5.2.2.2.2.2.2.2.2.2.2.2.2.2.2.2.2.2.2.2.1, hx5.2.2.2.2.2.2.2.2.2.2.2.2.2.2.2.2.2.2.2.2⟩ | assumption
    refine wpAnyH_take (i := 0) (v := .agg #[.int .i64 p.f, .int .i64 p.t, .int .i64 p.tl, .int .i64 p.pr, .int .i64 p.id, .int .i64 p.fr, .bool p.mo, .bool p.dn, .string p.op, .string p.da]) rfl (by kernel_rfl) (by kernel_rfl) (by kernel_rfl) (fun _ _ _ h => h) (Or.inl ⟨by rfl, ?_⟩) (by assumption) ?_
    · intro wx hSw
      try dsimp only at hSw
      go_simp
      try with_reducible rfl
    try simp only [Act.put, List.setIfInBounds_toArray, List.set_cons_zero, List.set_cons_succ]
    refine wpAnyH_take (i := 2) (v := .agg #[.int .i64 q.f, .int .i64 q.t, .int .i64 q.tl, .int .i64 q.pr, .int .i64 q.id, .int .i64 q.fr, .bool q.mo, .bool q.dn, .string q.op, .string q.da]) rfl (by kernel_rfl) (by kernel_rfl) (by kernel_rfl) (fun _ _ _ h => h) (Or.inl ⟨by rfl, ?_⟩) (by assumption) ?_
    · intro wx hSw
      try dsimp only at hSw
      go_simp
      try with_reducible rfl
    try simp only [Act.put, List.setIfInBounds_toArray, List.set_cons_zero, List.set_cons_succ]
    refine wpAnyH_ready (rs := [1]) (by kernel_rfl) (by simp) ?_
    refine AllReadyH.cons rfl (fun K hK => ?_) AllReadyH.nil
    go_simp
    go_at_call 56
    refine (start_any p _ h).mono ?_
    rintro e w1 ⟨rfl, hb⟩
    first
      | refine hK.out _ _ ?_ (fun hHeld => ?_)
      | (go_wp2_with fail; refine hK.out _ _ ?_ (fun hHeld => ?_))
    · try dsimp only
      (refine keep20 hb ?_; assumption)
    clear hK K
    try simp only [Act.put, List.setIfInBounds_toArray, List.set_cons_zero, List.set_cons_succ]
    refine wpAnyH_ready (rs := [3]) (by kernel_rfl) (by simp) ?_
    refine AllReadyH.cons rfl (fun K hK => ?_) AllReadyH.nil
    go_simp
    go_at_call 50
    refine (end_any q _ k).mono ?_
    rintro e w2 ⟨rfl, hb2⟩
    first
      | refine hK.out _ _ ?_ (fun hHeld => ?_)
      | (go_wp2_with fail; refine hK.out _ _ ?_ (fun hHeld => ?_))
    · try dsimp only
      (refine keep20 hb2 ?_; assumption)
    clear hK K
    try simp only [Act.put, List.setIfInBounds_toArray, List.set_cons_zero, List.set_cons_succ]
    refine wpAnyH_take (i := 4) (v := .bool false) rfl (by kernel_rfl) (by kernel_rfl) (by kernel_rfl) (fun _ _ _ h => h) (Or.inl ⟨by rfl, ?_⟩) (by assumption) ?_
    · intro wx hSw
      try dsimp only at hSw
      go_simp
      try with_reducible rfl
    try simp only [Act.put, List.setIfInBounds_toArray, List.set_cons_zero, List.set_cons_succ]
    refine wpAnyH_take (i := 5) (v := .bool false) rfl (by kernel_rfl) (by kernel_rfl) (by kernel_rfl) (fun _ _ _ h => h) (Or.inl ⟨by rfl, ?_⟩) (by assumption) ?_
    · intro wx hSw
      try dsimp only at hSw
      go_simp
      try with_reducible rfl
    try simp only [Act.put, List.setIfInBounds_toArray, List.set_cons_zero, List.set_cons_succ]
    refine wpAnyH_take (i := 6) (v := undef) rfl (by kernel_rfl) (by kernel_rfl) (by kernel_rfl) (fun _ _ _ h => h) (Or.inr ⟨by rfl, rfl⟩) (by assumption) ?_
    try simp only [Act.put, List.setIfInBounds_toArray, List.set_cons_zero, List.set_cons_succ]
    refine wpAnyH_take (i := 8) (v := undef) rfl (by kernel_rfl) (by kernel_rfl) (by kernel_rfl) (fun _ _ _ h => h) (Or.inr ⟨by rfl, rfl⟩) (by assumption) ?_
    try simp only [Act.put, List.setIfInBounds_toArray, List.set_cons_zero, List.set_cons_succ]
    refine wpAnyH_take (i := 7) (v := undef) rfl (by kernel_rfl) (by kernel_rfl) (by kernel_rfl) (fun _ _ _ h => h) (Or.inr ⟨by rfl, rfl⟩) (by assumption) ?_
    try simp only [Act.put, List.setIfInBounds_toArray, List.set_cons_zero, List.set_cons_succ]
    refine wpAnyH_take (i := 9) (v := undef) rfl (by kernel_rfl) (by kernel_rfl) (by kernel_rfl) (fun _ _ _ h => h) (Or.inr ⟨by rfl, rfl⟩) (by assumption) ?_
    try simp only [Act.put, List.setIfInBounds_toArray, List.set_cons_zero, List.set_cons_succ]
    refine wpAnyH_take (i := 10) (v := undef) rfl (by kernel_rfl) (by kernel_rfl) (by kernel_rfl) (fun _ _ _ h => h) (Or.inr ⟨by rfl, rfl⟩) (by assumption) ?_
    try simp only [Act.put, List.setIfInBounds_toArray, List.set_cons_zero, List.set_cons_succ]
    refine wpAnyH_take (i := 11) (v := .bool false) rfl (by kernel_rfl) (by kernel_rfl) (by kernel_rfl) (fun _ _ _ h => h) (Or.inl ⟨by rfl, ?_⟩) (by assumption) ?_
    · intro wx hSw
      try dsimp only at hSw
      go_simp
      try with_reducible rfl
    try simp only [Act.put, List.setIfInBounds_toArray, List.set_cons_zero, List.set_cons_succ]
    refine wpAnyH_take (i := 12) (v := .bool false) rfl (by kernel_rfl) (by kernel_rfl) (by kernel_rfl) (fun _ _ _ h => h) (Or.inl ⟨by rfl, ?_⟩) (by assumption) ?_
    · intro wx hSw
      try dsimp only at hSw
      go_simp
      try with_reducible rfl
    try simp only [Act.put, List.setIfInBounds_toArray, List.set_cons_zero, List.set_cons_succ]
    refine wpAnyH_done (by kernel_rfl) ?_ _
    go_wp2
    go_ret
    exact ⟨rfl, hHeld.1⟩
set_option maxHeartbeats 4000000 in
theorem past_any (p q : Pk) (w : World) (h : p.Fine) (k : q.Fine) : Calls Try.prog 71 #[.agg #[.int .i64 p.f, .int .i64 p.t, .int .i64 p.tl, .int .i64 p.pr, .int .i64 p.id, .int .i64 p.fr, .bool p.mo, .bool p.dn, .string p.op, .string p.da], .agg #[.int .i64 q.f, .int .i64 q.t, .int .i64 q.tl, .int .i64 q.pr, .int .i64 q.id, .int .i64 q.fr, .bool q.mo, .bool q.dn, .string q.op, .string q.da]] w fun e w' => e = .returned (.bool (pastB p q)) ∧ Below w.heap.size w w' := by
  have h0 := h.f0
  have h1 := h.f1
  have h2 := h.dl
  have k0 := k.f0
  have k1 := k.f1
  have k2 := k.dl
  have hA := (At.box w #[.int .i64 p.f, .int .i64 p.t, .int .i64 p.tl, .int .i64 p.pr, .int .i64 p.id, .int .i64 p.fr, .bool p.mo, .bool p.dn, .string p.op, .string p.da] 32).later (bel1 _ (.cells #[.int .i64 q.f, .int .i64 q.t, .int .i64 q.tl, .int .i64 q.pr, .int .i64 q.id, .int .i64 q.fr, .bool q.mo, .bool q.dn, .string q.op, .string q.da] 32))
  have hB := At.box2 w (.cells #[.int .i64 p.f, .int .i64 p.t, .int .i64 p.tl, .int .i64 p.pr, .int .i64 p.id, .int .i64 p.fr, .bool p.mo, .bool p.dn, .string p.op, .string p.da] 32) #[.int .i64 q.f, .int .i64 q.t, .int .i64 q.tl, .int .i64 q.pr, .int .i64 q.id, .int .i64 q.fr, .bool q.mo, .bool q.dn, .string q.op, .string q.da] 32
  have hl := bt (bel1 w (.cells #[.int .i64 p.f, .int .i64 p.t, .int .i64 p.tl, .int .i64 p.pr, .int .i64 p.id, .int .i64 p.fr, .bool p.mo, .bool p.dn, .string p.op, .string p.da] 32)) (bel1 _ (.cells #[.int .i64 q.f, .int .i64 q.t, .int .i64 q.tl, .int .i64 q.pr, .int .i64 q.id, .int .i64 q.fr, .bool q.mo, .bool q.dn, .string q.op, .string q.da] 32))
  obtain ⟨⟨c0, c1, c2, c3, c4, c5, c6, c7, c8, c9⟩, -, -⟩ := hA.ten
  obtain ⟨⟨d0, d1, d2, d3, d4, d5, d6, d7, d8, d9⟩, -, -⟩ := hB.ten
  have hx5 : Below w.heap.size w ((w.alloc (.cells #[.int .i64 p.f, .int .i64 p.t, .int .i64 p.tl, .int .i64 p.pr, .int .i64 p.id, .int .i64 p.fr, .bool p.mo, .bool p.dn, .string p.op, .string p.da] 32)).alloc (.cells #[.int .i64 q.f, .int .i64 q.t, .int .i64 q.tl, .int .i64 q.pr, .int .i64 q.id, .int .i64 q.fr, .bool q.mo, .bool q.dn, .string q.op, .string q.da] 32)) ∧ ((w.alloc (.cells #[.int .i64 p.f, .int .i64 p.t, .int .i64 p.tl, .int .i64 p.pr, .int .i64 p.id, .int .i64 p.fr, .bool p.mo, .bool p.dn, .string p.op, .string p.da] 32)).alloc (.cells #[.int .i64 q.f, .int .i64 q.t, .int .i64 q.tl, .int .i64 q.pr, .int .i64 q.id, .int .i64 q.fr, .bool q.mo, .bool q.dn, .string q.op, .string q.da] 32)).cell? ⟨w.heap.size, 0, none⟩ = some (.int .i64 p.f) ∧ ((w.alloc (.cells #[.int .i64 p.f, .int .i64 p.t, .int .i64 p.tl, .int .i64 p.pr, .int .i64 p.id, .int .i64 p.fr, .bool p.mo, .bool p.dn, .string p.op, .string p.da] 32)).alloc (.cells #[.int .i64 q.f, .int .i64 q.t, .int .i64 q.tl, .int .i64 q.pr, .int .i64 q.id, .int .i64 q.fr, .bool q.mo, .bool q.dn, .string q.op, .string q.da] 32)).cell? ⟨w.heap.size, 1, none⟩ = some (.int .i64 p.t) ∧ ((w.alloc (.cells #[.int .i64 p.f, .int .i64 p.t, .int .i64 p.tl, .int .i64 p.pr, .int .i64 p.id, .int .i64 p.fr, .bool p.mo, .bool p.dn, .string p.op, .string p.da] 32)).alloc (.cells #[.int .i64 q.f, .int .i64 q.t, .int .i64 q.tl, .int .i64 q.pr, .int .i64 q.id, .int .i64 q.fr, .bool q.mo, .bool q.dn, .string q.op, .string q.da] 32)).cell? ⟨w.heap.size, 2, none⟩ = some (.int .i64 p.tl) ∧ ((w.alloc (.cells #[.int .i64 p.f, .int .i64 p.t, .int .i64 p.tl, .int .i64 p.pr, .int .i64 p.id, .int .i64 p.fr, .bool p.mo, .bool p.dn, .string p.op, .string p.da] 32)).alloc (.cells #[.int .i64 q.f, .int .i64 q.t, .int .i64 q.tl, .int .i64 q.pr, .int .i64 q.id, .int .i64 q.fr, .bool q.mo, .bool q.dn, .string q.op, .string q.da] 32)).cell? ⟨w.heap.size, 3, none⟩ = some (.int .i64 p.pr) ∧ ((w.alloc (.cells #[.int .i64 p.f, .int .i64 p.t, .int .i64 p.tl, .int .i64 p.pr, .int .i64 p.id, .int .i64 p.fr, .bool p.mo, .bool p.dn, .string p.op, .string p.da] 32)).alloc (.cells #[.int .i64 q.f, .int .i64 q.t, .int .i64 q.tl, .int .i64 q.pr, .int .i64 q.id, .int .i64 q.fr, .bool q.mo, .bool q.dn, .string q.op, .string q.da] 32)).cell? ⟨w.heap.size, 4, none⟩ = some (.int .i64 p.id) ∧ ((w.alloc (.cells #[.int .i64 p.f, .int .i64 p.t, .int .i64 p.tl, .int .i64 p.pr, .int .i64 p.id, .int .i64 p.fr, .bool p.mo, .bool p.dn, .string p.op, .string p.da] 32)).alloc (.cells #[.int .i64 q.f, .int .i64 q.t, .int .i64 q.tl, .int .i64 q.pr, .int .i64 q.id, .int .i64 q.fr, .bool q.mo, .bool q.dn, .string q.op, .string q.da] 32)).cell? ⟨w.heap.size, 5, none⟩ = some (.int .i64 p.fr) ∧ ((w.alloc (.cells #[.int .i64 p.f, .int .i64 p.t, .int .i64 p.tl, .int .i64 p.pr, .int .i64 p.id, .int .i64 p.fr, .bool p.mo, .bool p.dn, .string p.op, .string p.da] 32)).alloc (.cells #[.int .i64 q.f, .int .i64 q.t, .int .i64 q.tl, .int .i64 q.pr, .int .i64 q.id, .int .i64 q.fr, .bool q.mo, .bool q.dn, .string q.op, .string q.da] 32)).cell? ⟨w.heap.size, 6, none⟩ = some (.bool p.mo) ∧ ((w.alloc (.cells #[.int .i64 p.f, .int .i64 p.t, .int .i64 p.tl, .int .i64 p.pr, .int .i64 p.id, .int .i64 p.fr, .bool p.mo, .bool p.dn, .string p.op, .string p.da] 32)).alloc (.cells #[.int .i64 q.f, .int .i64 q.t, .int .i64 q.tl, .int .i64 q.pr, .int .i64 q.id, .int .i64 q.fr, .bool q.mo, .bool q.dn, .string q.op, .string q.da] 32)).cell? ⟨w.heap.size, 7, none⟩ = some (.bool p.dn) ∧ ((w.alloc (.cells #[.int .i64 p.f, .int .i64 p.t, .int .i64 p.tl, .int .i64 p.pr, .int .i64 p.id, .int .i64 p.fr, .bool p.mo, .bool p.dn, .string p.op, .string p.da] 32)).alloc (.cells #[.int .i64 q.f, .int .i64 q.t, .int .i64 q.tl, .int .i64 q.pr, .int .i64 q.id, .int .i64 q.fr, .bool q.mo, .bool q.dn, .string q.op, .string q.da] 32)).cell? ⟨w.heap.size, 8, none⟩ = some (.string p.op) ∧ ((w.alloc (.cells #[.int .i64 p.f, .int .i64 p.t, .int .i64 p.tl, .int .i64 p.pr, .int .i64 p.id, .int .i64 p.fr, .bool p.mo, .bool p.dn, .string p.op, .string p.da] 32)).alloc (.cells #[.int .i64 q.f, .int .i64 q.t, .int .i64 q.tl, .int .i64 q.pr, .int .i64 q.id, .int .i64 q.fr, .bool q.mo, .bool q.dn, .string q.op, .string q.da] 32)).cell? ⟨w.heap.size, 9, none⟩ = some (.string p.da) ∧ ((w.alloc (.cells #[.int .i64 p.f, .int .i64 p.t, .int .i64 p.tl, .int .i64 p.pr, .int .i64 p.id, .int .i64 p.fr, .bool p.mo, .bool p.dn, .string p.op, .string p.da] 32)).alloc (.cells #[.int .i64 q.f, .int .i64 q.t, .int .i64 q.tl, .int .i64 q.pr, .int .i64 q.id, .int .i64 q.fr, .bool q.mo, .bool q.dn, .string q.op, .string q.da] 32)).cell? ⟨w.heap.size + 1, 0, none⟩ = some (.int .i64 q.f) ∧ ((w.alloc (.cells #[.int .i64 p.f, .int .i64 p.t, .int .i64 p.tl, .int .i64 p.pr, .int .i64 p.id, .int .i64 p.fr, .bool p.mo, .bool p.dn, .string p.op, .string p.da] 32)).alloc (.cells #[.int .i64 q.f, .int .i64 q.t, .int .i64 q.tl, .int .i64 q.pr, .int .i64 q.id, .int .i64 q.fr, .bool q.mo, .bool q.dn, .string q.op, .string q.da] 32)).cell? ⟨w.heap.size + 1, 1, none⟩ = some (.int .i64 q.t) ∧ ((w.alloc (.cells #[.int .i64 p.f, .int .i64 p.t, .int .i64 p.tl, .int .i64 p.pr, .int .i64 p.id, .int .i64 p.fr, .bool p.mo, .bool p.dn, .string p.op, .string p.da] 32)).alloc (.cells #[.int .i64 q.f, .int .i64 q.t, .int .i64 q.tl, .int .i64 q.pr, .int .i64 q.id, .int .i64 q.fr, .bool q.mo, .bool q.dn, .string q.op, .string q.da] 32)).cell? ⟨w.heap.size + 1, 2, none⟩ = some (.int .i64 q.tl) ∧ ((w.alloc (.cells #[.int .i64 p.f, .int .i64 p.t, .int .i64 p.tl, .int .i64 p.pr, .int .i64 p.id, .int .i64 p.fr, .bool p.mo, .bool p.dn, .string p.op, .string p.da] 32)).alloc (.cells #[.int .i64 q.f, .int .i64 q.t, .int .i64 q.tl, .int .i64 q.pr, .int .i64 q.id, .int .i64 q.fr, .bool q.mo, .bool q.dn, .string q.op, .string q.da] 32)).cell? ⟨w.heap.size + 1, 3, none⟩ = some (.int .i64 q.pr) ∧ ((w.alloc (.cells #[.int .i64 p.f, .int .i64 p.t, .int .i64 p.tl, .int .i64 p.pr, .int .i64 p.id, .int .i64 p.fr, .bool p.mo, .bool p.dn, .string p.op, .string p.da] 32)).alloc (.cells #[.int .i64 q.f, .int .i64 q.t, .int .i64 q.tl, .int .i64 q.pr, .int .i64 q.id, .int .i64 q.fr, .bool q.mo, .bool q.dn, .string q.op, .string q.da] 32)).cell? ⟨w.heap.size + 1, 4, none⟩ = some (.int .i64 q.id) ∧ ((w.alloc (.cells #[.int .i64 p.f, .int .i64 p.t, .int .i64 p.tl, .int .i64 p.pr, .int .i64 p.id, .int .i64 p.fr, .bool p.mo, .bool p.dn, .string p.op, .string p.da] 32)).alloc (.cells #[.int .i64 q.f, .int .i64 q.t, .int .i64 q.tl, .int .i64 q.pr, .int .i64 q.id, .int .i64 q.fr, .bool q.mo, .bool q.dn, .string q.op, .string q.da] 32)).cell? ⟨w.heap.size + 1, 5, none⟩ = some (.int .i64 q.fr) ∧ ((w.alloc (.cells #[.int .i64 p.f, .int .i64 p.t, .int .i64 p.tl, .int .i64 p.pr, .int .i64 p.id, .int .i64 p.fr, .bool p.mo, .bool p.dn, .string p.op, .string p.da] 32)).alloc (.cells #[.int .i64 q.f, .int .i64 q.t, .int .i64 q.tl, .int .i64 q.pr, .int .i64 q.id, .int .i64 q.fr, .bool q.mo, .bool q.dn, .string q.op, .string q.da] 32)).cell? ⟨w.heap.size + 1, 6, none⟩ = some (.bool q.mo) ∧ ((w.alloc (.cells #[.int .i64 p.f, .int .i64 p.t, .int .i64 p.tl, .int .i64 p.pr, .int .i64 p.id, .int .i64 p.fr, .bool p.mo, .bool p.dn, .string p.op, .string p.da] 32)).alloc (.cells #[.int .i64 q.f, .int .i64 q.t, .int .i64 q.tl, .int .i64 q.pr, .int .i64 q.id, .int .i64 q.fr, .bool q.mo, .bool q.dn, .string q.op, .string q.da] 32)).cell? ⟨w.heap.size + 1, 7, none⟩ = some (.bool q.dn) ∧ ((w.alloc (.cells #[.int .i64 p.f, .int .i64 p.t, .int .i64 p.tl, .int .i64 p.pr, .int .i64 p.id, .int .i64 p.fr, .bool p.mo, .bool p.dn, .string p.op, .string p.da] 32)).alloc (.cells #[.int .i64 q.f, .int .i64 q.t, .int .i64 q.tl, .int .i64 q.pr, .int .i64 q.id, .int .i64 q.fr, .bool q.mo, .bool q.dn, .string q.op, .string q.da] 32)).cell? ⟨w.heap.size + 1, 8, none⟩ = some (.string q.op) ∧ ((w.alloc (.cells #[.int .i64 p.f, .int .i64 p.t, .int .i64 p.tl, .int .i64 p.pr, .int .i64 p.id, .int .i64 p.fr, .bool p.mo, .bool p.dn, .string p.op, .string p.da] 32)).alloc (.cells #[.int .i64 q.f, .int .i64 q.t, .int .i64 q.tl, .int .i64 q.pr, .int .i64 q.id, .int .i64 q.fr, .bool q.mo, .bool q.dn, .string q.op, .string q.da] 32)).cell? ⟨w.heap.size + 1, 9, none⟩ = some (.string q.da) := ⟨hl, c0, c1, c2, c3, c4, c5, c6, c7, c8, c9, d0, d1, d2, d3, d4, d5, d6, d7, d8, d9⟩
  clear hA hB hl c0 c1 c2 c3 c4 c5 c6 c7 c8 c9 d0 d1 d2 d3 d4 d5 d6 d7 d8 d9
  cases hm : q.mo with
  | true =>
    have e1 : pastB p q = false := by unfold pastB; rw [hm]; rfl
    rw [e1]
    rw [hm] at hx5
    clear e1
    go_enter Try.func71, Try.ntmps71
    go_upto_region 1 with fail
    have m6 : ∀ nn, (((w.alloc (.cells #[.int .i64 p.f, .int .i64 p.t, .int .i64 p.tl, .int .i64 p.pr, .int .i64 p.id, .int .i64 p.fr, .bool p.mo, .bool p.dn, .string p.op, .string p.da] 32)).alloc (.cells #[.int .i64 q.f, .int .i64 q.t, .int .i64 q.tl, .int .i64 q.pr, .int .i64 q.id, .int .i64 q.fr, .bool true, .bool q.dn, .string q.op, .string q.da] 32)).drewN nn).cell? ⟨w.heap.size + 1, 6, none⟩ = some (.bool true) := fun nn => hx5.2.2.2.2.2.2.2.2.2.2.2.2.2.2.2.2.2.1
    have hb0 := hx5.1
    clear hx5
    generalize (w.alloc (.cells #[.int .i64 p.f, .int .i64 p.t, .int .i64 p.tl, .int .i64 p.pr, .int .i64 p.id, .int .i64 p.fr, .bool p.mo, .bool p.dn, .string p.op, .string p.da] 32)).alloc (.cells #[.int .i64 q.f, .int .i64 q.t, .int .i64 q.tl, .int .i64 q.pr, .int .i64 q.id, .int .i64 q.fr, .bool true, .bool q.dn, .string q.op, .string q.da] 32) = W0 at *
    have m60 := m6 0
    go_quiet (fail)
    have qd := below_drewN hb0 nq
    go_wp2
    go_ret
    exact ⟨by simp <;> omega, qd⟩
  | false =>
    have e1 : pastB p q = decide (q.fr * 8 + (q.da.size : Int) < p.fr * 8 + (p.da.size : Int)) := by unfold pastB; rw [hm]; rfl
    rw [e1]
    rw [hm] at hx5
    clear e1
    have kE : ∀ W, Calls Try.prog 50 #[.agg #[.int .i64 q.f, .int .i64 q.t, .int .i64 q.tl, .int .i64 q.pr, .int .i64 q.id, .int .i64 q.fr, .bool false, .bool q.dn, .string q.op, .string q.da]] W fun e w' => e = .returned (.int .i64 (q.fr * 8 + (q.da.size : Int))) ∧ Below W.heap.size W w' := fun W => by have := end_any q W k; rw [hm] at this; exact this
    go_enter Try.func71, Try.ntmps71
    go_upto_region 1 with fail
    generalize (w.alloc (.cells #[.int .i64 p.f, .int .i64 p.t, .int .i64 p.tl, .int .i64 p.pr, .int .i64 p.id, .int .i64 p.fr, .bool p.mo, .bool p.dn, .string p.op, .string p.da] 32)).alloc (.cells #[.int .i64 q.f, .int .i64 q.t, .int .i64 q.tl, .int .i64 q.pr, .int .i64 q.id, .int .i64 q.fr, .bool false, .bool q.dn, .string q.op, .string q.da] 32) = W0 at hx5 ⊢
    go_region_held3 (fun W => Below w.heap.size w W ∧ W.cell? ⟨w.heap.size, 0, none⟩ = some (.int .i64 p.f) ∧ W.cell? ⟨w.heap.size, 1, none⟩ = some (.int .i64 p.t) ∧ W.cell? ⟨w.heap.size, 2, none⟩ = some (.int .i64 p.tl) ∧ W.cell? ⟨w.heap.size, 3, none⟩ = some (.int .i64 p.pr) ∧ W.cell? ⟨w.heap.size, 4, none⟩ = some (.int .i64 p.id) ∧ W.cell? ⟨w.heap.size, 5, none⟩ = some (.int .i64 p.fr) ∧ W.cell? ⟨w.heap.size, 6, none⟩ = some (.bool p.mo) ∧ W.cell? ⟨w.heap.size, 7, none⟩ = some (.bool p.dn) ∧ W.cell? ⟨w.heap.size, 8, none⟩ = some (.string p.op) ∧ W.cell? ⟨w.heap.size, 9, none⟩ = some (.string p.da) ∧ W.cell? ⟨w.heap.size + 1, 0, none⟩ = some (.int .i64 q.f) ∧ W.cell? ⟨w.heap.size + 1, 1, none⟩ = some (.int .i64 q.t) ∧ W.cell? ⟨w.heap.size + 1, 2, none⟩ = some (.int .i64 q.tl) ∧ W.cell? ⟨w.heap.size + 1, 3, none⟩ = some (.int .i64 q.pr) ∧ W.cell? ⟨w.heap.size + 1, 4, none⟩ = some (.int .i64 q.id) ∧ W.cell? ⟨w.heap.size + 1, 5, none⟩ = some (.int .i64 q.fr) ∧ W.cell? ⟨w.heap.size + 1, 6, none⟩ = some (.bool false) ∧ W.cell? ⟨w.heap.size + 1, 7, none⟩ = some (.bool q.dn) ∧ W.cell? ⟨w.heap.size + 1, 8, none⟩ = some (.string q.op) ∧ W.cell? ⟨w.heap.size + 1, 9, none⟩ = some (.string q.da)) (first | assumption | exact ⟨hx5.1.drew, hx5.2.1, hx5.2.2.1, hx5.2.2.2.1, hx5.2.2.2.2.1, hx5.2.2.2.2.2.1, hx5.2.2.2.2.2.2.1, hx5.2.2.2.2.2.2.2.1, hx5.2.2.2.2.2.2.2.2.1, hx5.2.2.2.2.2.2.2.2.2.1, hx5.2.2.2.2.2.2.2.2.2.2.1, hx5.2.2.2.2.2.2.2.2.2.2.2.1, hx5.2.2.2.2.2.2.2.2.2.2.2.2.1, hx5.2.2.2.2.2.2.2.2.2.2.2.2.2.1, hx5.2.2.2.2.2.2.2.2.2.2.2.2.2.2.1, hx5.2.2.2.2.2.2.2.2.2.2.2.2.2.2.2.1, hx5.2.2.2.2.2.2.2.2.2.2.2.2.2.2.2.2.1, hx5.2.2.2.2.2.2.2.2.2.2.2.2.2.2.2.2.2.1, hx5.2.2.2.2.2.2.2.2.2.2.2.2.2.2.2.2.2.2.1, hx5.2.2.2.2.2.2.2.2.2.2.2.2.2.2.2.2.2.2.2.1, hx5.2.2.2.2.2.2.2.2.2.2.2.2.2.2.2.2.2.2.2.2⟩ | (refine keep20 hb ?_; assumption)) (first | (go_at_call 50; refine (end_any p _ h).mono ?_; rintro e w' ⟨rfl, hb⟩) | (go_at_call 50; refine (kE _).mono ?_; rintro e w' ⟨rfl, hb⟩))
    all_goals
      go_wp2
      go_ret
      rename_i hq
      exact ⟨by first | rfl | (simp <;> omega), hq.1⟩
end Go.Proofs.Ytcjhniehbafhpaa
