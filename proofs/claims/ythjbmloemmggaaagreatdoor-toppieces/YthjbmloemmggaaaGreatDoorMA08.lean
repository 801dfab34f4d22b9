/- the texts KFc, KFd, in part, merged by program -/
import Derived.Test.YthjbmloemmggaaaGreatDoorRows
import Derived.WalkKit
import Derived.WalkSpells
import Derived.Maps.RangeWalk
import Derived.Maps.OwnSet
import Derived.Maps.Ext
import Derived.Maps.Keyed
import Derived.DeepKeys4
import Derived.WalkSmall
import Derived.Deep.Cut
import Derived.Deep.CutRange
import Derived.Deep.MidRow
import Derived.Deep.QuietTactic
import Derived.BigQuiet
import Derived.Deep.RegionWith
import Derived.OwnWalk
import Derived.Laws.CopyRow
import Derived.Laws.OwnMore
import Derived.Laws.AppendOwn
import Derived.Laws.AppendOwnNone
import Derived.Carry
import Derived.Deep.RegionHeld3
import Derived.LoopN
import Derived.Test.YthjbmloemmggaaaGreatDoorMA01
import Derived.Test.YthjbmloemmggaaaGreatDoorMA04
import Derived.Test.YthjbmloemmggaaaGreatDoorMA07
namespace Go.Proofs.YthjbmloemmggaaaGreatDoor.Ip
open Go.RowKit Go.Maps
set_option maxRecDepth 100000
set_option linter.unusedVariables false
set_option linter.unusedSimpArgs false

theorem keep20 {w W x : World} {a0 : Addr} {a1 : Addr} {a2 : Addr} {a3 : Addr} {a4 : Addr} {a5 : Addr} {a6 : Addr} {a7 : Addr} {a8 : Addr} {a9 : Addr} {a10 : Addr} {a11 : Addr} {a12 : Addr} {a13 : Addr} {a14 : Addr} {a15 : Addr} {a16 : Addr} {a17 : Addr} {a18 : Addr} {a19 : Addr} {v0 : Value} {v1 : Value} {v2 : Value} {v3 : Value} {v4 : Value} {v5 : Value} {v6 : Value} {v7 : Value} {v8 : Value} {v9 : Value} {v10 : Value} {v11 : Value} {v12 : Value} {v13 : Value} {v14 : Value} {v15 : Value} {v16 : Value} {v17 : Value} {v18 : Value} {v19 : Value} (hb : Below W.heap.size W x) (h : Below w.heap.size w W ∧ W.cell? a0 = some v0 ∧ W.cell? a1 = some v1 ∧ W.cell? a2 = some v2 ∧ W.cell? a3 = some v3 ∧ W.cell? a4 = some v4 ∧ W.cell? a5 = some v5 ∧ W.cell? a6 = some v6 ∧ W.cell? a7 = some v7 ∧ W.cell? a8 = some v8 ∧ W.cell? a9 = some v9 ∧ W.cell? a10 = some v10 ∧ W.cell? a11 = some v11 ∧ W.cell? a12 = some v12 ∧ W.cell? a13 = some v13 ∧ W.cell? a14 = some v14 ∧ W.cell? a15 = some v15 ∧ W.cell? a16 = some v16 ∧ W.cell? a17 = some v17 ∧ W.cell? a18 = some v18 ∧ W.cell? a19 = some v19) : Below w.heap.size w x ∧ x.cell? a0 = some v0 ∧ x.cell? a1 = some v1 ∧ x.cell? a2 = some v2 ∧ x.cell? a3 = some v3 ∧ x.cell? a4 = some v4 ∧ x.cell? a5 = some v5 ∧ x.cell? a6 = some v6 ∧ x.cell? a7 = some v7 ∧ x.cell? a8 = some v8 ∧ x.cell? a9 = some v9 ∧ x.cell? a10 = some v10 ∧ x.cell? a11 = some v11 ∧ x.cell? a12 = some v12 ∧ x.cell? a13 = some v13 ∧ x.cell? a14 = some v14 ∧ x.cell? a15 = some v15 ∧ x.cell? a16 = some v16 ∧ x.cell? a17 = some v17 ∧ x.cell? a18 = some v18 ∧ x.cell? a19 = some v19 :=
  ⟨bt h.1 hb, later hb h.2.1, later hb h.2.2.1, later hb h.2.2.2.1, later hb h.2.2.2.2.1, later hb h.2.2.2.2.2.1, later hb h.2.2.2.2.2.2.1, later hb h.2.2.2.2.2.2.2.1, later hb h.2.2.2.2.2.2.2.2.1, later hb h.2.2.2.2.2.2.2.2.2.1, later hb h.2.2.2.2.2.2.2.2.2.2.1, later hb h.2.2.2.2.2.2.2.2.2.2.2.1, later hb h.2.2.2.2.2.2.2.2.2.2.2.2.1, later hb h.2.2.2.2.2.2.2.2.2.2.2.2.2.1, later hb h.2.2.2.2.2.2.2.2.2.2.2.2.2.2.1, later hb h.2.2.2.2.2.2.2.2.2.2.2.2.2.2.2.1, later hb h.2.2.2.2.2.2.2.2.2.2.2.2.2.2.2.2.1, later hb h.2.2.2.2.2.2.2.2.2.2.2.2.2.2.2.2.2.1, later hb h.2.2.2.2.2.2.2.2.2.2.2.2.2.2.2.2.2.2.1, later hb h.2.2.2.2.2.2.2.2.2.2.2.2.2.2.2.2.2.2.2.1, later hb h.2.2.2.2.2.2.2.2.2.2.2.2.2.2.2.2.2.2.2.2⟩
theorem keep10 {w W x : World} {a0 : Addr} {a1 : Addr} {a2 : Addr} {a3 : Addr} {a4 : Addr} {a5 : Addr} {a6 : Addr} {a7 : Addr} {a8 : Addr} {a9 : Addr} {v0 : Value} {v1 : Value} {v2 : Value} {v3 : Value} {v4 : Value} {v5 : Value} {v6 : Value} {v7 : Value} {v8 : Value} {v9 : Value} (hb : Below W.heap.size W x) (h : Below w.heap.size w W ∧ W.cell? a0 = some v0 ∧ W.cell? a1 = some v1 ∧ W.cell? a2 = some v2 ∧ W.cell? a3 = some v3 ∧ W.cell? a4 = some v4 ∧ W.cell? a5 = some v5 ∧ W.cell? a6 = some v6 ∧ W.cell? a7 = some v7 ∧ W.cell? a8 = some v8 ∧ W.cell? a9 = some v9) : Below w.heap.size w x ∧ x.cell? a0 = some v0 ∧ x.cell? a1 = some v1 ∧ x.cell? a2 = some v2 ∧ x.cell? a3 = some v3 ∧ x.cell? a4 = some v4 ∧ x.cell? a5 = some v5 ∧ x.cell? a6 = some v6 ∧ x.cell? a7 = some v7 ∧ x.cell? a8 = some v8 ∧ x.cell? a9 = some v9 :=
  ⟨bt h.1 hb, later hb h.2.1, later hb h.2.2.1, later hb h.2.2.2.1, later hb h.2.2.2.2.1, later hb h.2.2.2.2.2.1, later hb h.2.2.2.2.2.2.1, later hb h.2.2.2.2.2.2.2.1, later hb h.2.2.2.2.2.2.2.2.1, later hb h.2.2.2.2.2.2.2.2.2.1, later hb h.2.2.2.2.2.2.2.2.2.2⟩
def Pk.st (p : Pk) : Int := p.fr * 8
def Pk.en (p : Pk) : Int := p.fr * 8 + (p.da.size : Int)
structure Pk.Fine (p : Pk) : Prop where
  f0 : 0 ≤ p.fr
  f1 : p.fr ≤ 8191
  dl : (p.da.size : Int) ≤ 65535
  ol : (p.op.size : Int) ≤ 40
def ovB (p q : Pk) : Bool := decide (p.st < q.en) && decide (q.st < p.en)
def pastB (p q : Pk) : Bool := !q.mo && decide (q.en < p.en)
def clashB (p q : Pk) : Bool := ovB p q || pastB p q || pastB q p
theorem start_any (p : Pk) (w : World) (h : p.Fine) : Calls Tryz.prog 78 #[.agg #[.int .i64 p.f, .int .i64 p.t, .int .i64 p.tl, .int .i64 p.pr, .int .i64 p.id, .int .i64 p.fr, .bool p.mo, .bool p.dn, .string p.op, .string p.da]] w fun e w' => e = .returned (.int .i64 (p.fr * 8)) ∧ Below w.heap.size w w' := by
  obtain ⟨h0, h1, h2, h3⟩ := h
  have hA := At.box w #[.int .i64 p.f, .int .i64 p.t, .int .i64 p.tl, .int .i64 p.pr, .int .i64 p.id, .int .i64 p.fr, .bool p.mo, .bool p.dn, .string p.op, .string p.da] 23
  have hl := bel1 w (.cells #[.int .i64 p.f, .int .i64 p.t, .int .i64 p.tl, .int .i64 p.pr, .int .i64 p.id, .int .i64 p.fr, .bool p.mo, .bool p.dn, .string p.op, .string p.da] 23)
  obtain ⟨⟨c0, c1, c2, c3, c4, c5, c6, c7, c8, c9⟩, -, -⟩ := hA.ten
  go_enter Tryz.func78, Tryz.ntmps78
  go_wp2
  go_ret
  exact ⟨by simp <;> omega, hl⟩
set_option maxHeartbeats 4000000 in
theorem end_any (p : Pk) (w : World) (h : p.Fine) : Calls Tryz.prog 72 #[.agg #[.int .i64 p.f, .int .i64 p.t, .int .i64 p.tl, .int .i64 p.pr, .int .i64 p.id, .int .i64 p.fr, .bool p.mo, .bool p.dn, .string p.op, .string p.da]] w fun e w' => e = .returned (.int .i64 (p.fr * 8 + (p.da.size : Int))) ∧ Below w.heap.size w w' := by
  have h0 := h.f0
  have h1 := h.f1
  have h2 := h.dl
  have hw : IntKind.i64.wrap (p.fr * 8 + (p.da.size : Int)) = p.fr * 8 + (p.da.size : Int) := by rw [IntKind.wrap_i64]; omega
  have hA := At.box w #[.int .i64 p.f, .int .i64 p.t, .int .i64 p.tl, .int .i64 p.pr, .int .i64 p.id, .int .i64 p.fr, .bool p.mo, .bool p.dn, .string p.op, .string p.da] 23
  have hl := bel1 w (.cells #[.int .i64 p.f, .int .i64 p.t, .int .i64 p.tl, .int .i64 p.pr, .int .i64 p.id, .int .i64 p.fr, .bool p.mo, .bool p.dn, .string p.op, .string p.da] 23)
  obtain ⟨hx, -, -⟩ := hA.ten
  have hx5 := And.intro hl hx
  clear hA hl hx
  go_enter Tryz.func72, Tryz.ntmps72
  go_upto_region 1 with fail
  generalize w.alloc (.cells #[.int .i64 p.f, .int .i64 p.t, .int .i64 p.tl, .int .i64 p.pr, .int .i64 p.id, .int .i64 p.fr, .bool p.mo, .bool p.dn, .string p.op, .string p.da] 23) = W0 at hx5 ⊢
  go_region_held3 (fun W => Below w.heap.size w W ∧ W.cell? ⟨w.heap.size, 0, none⟩ = some (.int .i64 p.f) ∧ W.cell? ⟨w.heap.size, 1, none⟩ = some (.int .i64 p.t) ∧ W.cell? ⟨w.heap.size, 2, none⟩ = some (.int .i64 p.tl) ∧ W.cell? ⟨w.heap.size, 3, none⟩ = some (.int .i64 p.pr) ∧ W.cell? ⟨w.heap.size, 4, none⟩ = some (.int .i64 p.id) ∧ W.cell? ⟨w.heap.size, 5, none⟩ = some (.int .i64 p.fr) ∧ W.cell? ⟨w.heap.size, 6, none⟩ = some (.bool p.mo) ∧ W.cell? ⟨w.heap.size, 7, none⟩ = some (.bool p.dn) ∧ W.cell? ⟨w.heap.size, 8, none⟩ = some (.string p.op) ∧ W.cell? ⟨w.heap.size, 9, none⟩ = some (.string p.da)) (first | assumption | exact ⟨hx5.1.drew, hx5.2.1, hx5.2.2.1, hx5.2.2.2.1, hx5.2.2.2.2.1, hx5.2.2.2.2.2.1, hx5.2.2.2.2.2.2.1, hx5.2.2.2.2.2.2.2.1, hx5.2.2.2.2.2.2.2.2.1, hx5.2.2.2.2.2.2.2.2.2.1, hx5.2.2.2.2.2.2.2.2.2.2⟩ | (refine keep10 hb ?_; assumption)) ((go_at_call 78; refine (start_any p _ h).mono ?_; rintro e w' ⟨rfl, hb⟩))
  all_goals
    go_wp2
    go_ret
    rename_i hq
    exact ⟨by first | rfl | (simp <;> omega), hq.1⟩
set_option maxHeartbeats 4000000 in
theorem overlap_any (p q : Pk) (w : World) (h : p.Fine) (k : q.Fine) : Calls Tryz.prog 94 #[.agg #[.int .i64 p.f, .int .i64 p.t, .int .i64 p.tl, .int .i64 p.pr, .int .i64 p.id, .int .i64 p.fr, .bool p.mo, .bool p.dn, .string p.op, .string p.da], .agg #[.int .i64 q.f, .int .i64 q.t, .int .i64 q.tl, .int .i64 q.pr, .int .i64 q.id, .int .i64 q.fr, .bool q.mo, .bool q.dn, .string q.op, .string q.da]] w fun e w' => e = .returned (.bool (ovB p q)) ∧ Below w.heap.size w w' := by
  have h0 := h.f0
  have h1 := h.f1
  have h2 := h.dl
  have k0 := k.f0
  have k1 := k.f1
  have k2 := k.dl
  have hA := (At.box w #[.int .i64 p.f, .int .i64 p.t, .int .i64 p.tl, .int .i64 p.pr, .int .i64 p.id, .int .i64 p.fr, .bool p.mo, .bool p.dn, .string p.op, .string p.da] 23).later (bel1 _ (.cells #[.int .i64 q.f, .int .i64 q.t, .int .i64 q.tl, .int .i64 q.pr, .int .i64 q.id, .int .i64 q.fr, .bool q.mo, .bool q.dn, .string q.op, .string q.da] 23))
  have hB := At.box2 w (.cells #[.int .i64 p.f, .int .i64 p.t, .int .i64 p.tl, .int .i64 p.pr, .int .i64 p.id, .int .i64 p.fr, .bool p.mo, .bool p.dn, .string p.op, .string p.da] 23) #[.int .i64 q.f, .int .i64 q.t, .int .i64 q.tl, .int .i64 q.pr, .int .i64 q.id, .int .i64 q.fr, .bool q.mo, .bool q.dn, .string q.op, .string q.da] 23
  have hl := bt (bel1 w (.cells #[.int .i64 p.f, .int .i64 p.t, .int .i64 p.tl, .int .i64 p.pr, .int .i64 p.id, .int .i64 p.fr, .bool p.mo, .bool p.dn, .string p.op, .string p.da] 23)) (bel1 _ (.cells #[.int .i64 q.f, .int .i64 q.t, .int .i64 q.tl, .int .i64 q.pr, .int .i64 q.id, .int .i64 q.fr, .bool q.mo, .bool q.dn, .string q.op, .string q.da] 23))
  obtain ⟨⟨c0, c1, c2, c3, c4, c5, c6, c7, c8, c9⟩, -, -⟩ := hA.ten
  obtain ⟨⟨d0, d1, d2, d3, d4, d5, d6, d7, d8, d9⟩, -, -⟩ := hB.ten
  have hx5 : Below w.heap.size w ((w.alloc (.cells #[.int .i64 p.f, .int .i64 p.t, .int .i64 p.tl, .int .i64 p.pr, .int .i64 p.id, .int .i64 p.fr, .bool p.mo, .bool p.dn, .string p.op, .string p.da] 23)).alloc (.cells #[.int .i64 q.f, .int .i64 q.t, .int .i64 q.tl, .int .i64 q.pr, .int .i64 q.id, .int .i64 q.fr, .bool q.mo, .bool q.dn, .string q.op, .string q.da] 23)) ∧ ((w.alloc (.cells #[.int .i64 p.f, .int .i64 p.t, .int .i64 p.tl, .int .i64 p.pr, .int .i64 p.id, .int .i64 p.fr, .bool p.mo, .bool p.dn, .string p.op, .string p.da] 23)).alloc (.cells #[.int .i64 q.f, .int .i64 q.t, .int .i64 q.tl, .int .i64 q.pr, .int .i64 q.id, .int .i64 q.fr, .bool q.mo, .bool q.dn, .string q.op, .string q.da] 23)).cell? ⟨w.heap.size, 0, none⟩ = some (.int .i64 p.f) ∧ ((w.alloc (.cells #[.int .i64 p.f, .int .i64 p.t, .int .i64 p.tl, .int .i64 p.pr, .int .i64 p.id, .int .i64 p.fr, .bool p.mo, .bool p.dn, .string p.op, .string p.da] 23)).alloc (.cells #[.int .i64 q.f, .int .i64 q.t, .int .i64 q.tl, .int .i64 q.pr, .int .i64 q.id, .int .i64 q.fr, .bool q.mo, .bool q.dn, .string q.op, .string q.da] 23)).cell? ⟨w.heap.size, 1, none⟩ = some (.int .i64 p.t) ∧ ((w.alloc (.cells #[.int .i64 p.f, .int .i64 p.t, .int .i64 p.tl, .int .i64 p.pr, .int .i64 p.id, .int .i64 p.fr, .bool p.mo, .bool p.dn, .string p.op, .string p.da] 23)).alloc (.cells #[.int .i64 q.f, .int .i64 q.t, .int .i64 q.tl, .int .i64 q.pr, .int .i64 q.id, .int .i64 q.fr, .bool q.mo, .bool q.dn, .string q.op, .string q.da] 23)).cell? ⟨w.heap.size, 2, none⟩ = some (.int .i64 p.tl) ∧ ((w.alloc (.cells #[.int .i64 p.f, .int .i64 p.t, .int .i64 p.tl, .int .i64 p.pr, .int .i64 p.id, .int .i64 p.fr, .bool p.mo, .bool p.dn, .string p.op, .string p.da] 23)).alloc (.cells #[.int .i64 q.f, .int .i64 q.t, .int .i64 q.tl, .int .i64 q.pr, .int .i64 q.id, .int .i64 q.fr, .bool q.mo, .bool q.dn, .string q.op, .string q.da] 23)).cell? ⟨w.heap.size, 3, none⟩ = some (.int .i64 p.pr) ∧ ((w.alloc (.cells #[.int .i64 p.f, .int .i64 p.t, .int .i64 p.tl, .int .i64 p.pr, .int .i64 p.id, .int .i64 p.fr, .bool p.mo, .bool p.dn, .string p.op, .string p.da] 23)).alloc (.cells #[.int .i64 q.f, .int .i64 q.t, .int .i64 q.tl, .int .i64 q.pr, .int .i64 q.id, .int .i64 q.fr, .bool q.mo, .bool q.dn, .string q.op, .string q.da] 23)).cell? ⟨w.heap.size, 4, none⟩ = some (.int .i64 p.id) ∧ ((w.alloc (.cells #[.int .i64 p.f, .int .i64 p.t, .int .i64 p.tl, .int .i64 p.pr, .int .i64 p.id, .int .i64 p.fr, .bool p.mo, .bool p.dn, .string p.op, .string p.da] 23)).alloc (.cells #[.int .i64 q.f, .int .i64 q.t, .int .i64 q.tl, .int .i64 q.pr, .int .i64 q.id, .int .i64 q.fr, .bool q.mo, .bool q.dn, .string q.op, .string q.da] 23)).cell? ⟨w.heap.size, 5, none⟩ = some (.int .i64 p.fr) ∧ ((w.alloc (.cells #[.int .i64 p.f, .int .i64 p.t, .int .i64 p.tl, .int .i64 p.pr, .int .i64 p.id, .int .i64 p.fr, .bool p.mo, .bool p.dn, .string p.op, .string p.da] 23)).alloc (.cells #[.int .i64 q.f, .int .i64 q.t, .int .i64 q.tl, .int .i64 q.pr, .int .i64 q.id, .int .i64 q.fr, .bool q.mo, .bool q.dn, .string q.op, .string q.da] 23)).cell? ⟨w.heap.size, 6, none⟩ = some (.bool p.mo) ∧ ((w.alloc (.cells #[.int .i64 p.f, .int .i64 p.t, .int .i64 p.tl, .int .i64 p.pr, .int .i64 p.id, .int .i64 p.fr, .bool p.mo, .bool p.dn, .string p.op, .string p.da] 23)).alloc (.cells #[.int .i64 q.f, .int .i64 q.t, .int .i64 q.tl, .int .i64 q.pr, .int .i64 q.id, .int .i64 q.fr, .bool q.mo, .bool q.dn, .string q.op, .string q.da] 23)).cell? ⟨w.heap.size, 7, none⟩ = some (.bool p.dn) ∧ ((w.alloc (.cells #[.int .i64 p.f, .int .i64 p.t, .int .i64 p.tl, .int .i64 p.pr, .int .i64 p.id, .int .i64 p.fr, .bool p.mo, .bool p.dn, .string p.op, .string p.da] 23)).alloc (.cells #[.int .i64 q.f, .int .i64 q.t, .int .i64 q.tl, .int .i64 q.pr, .int .i64 q.id, .int .i64 q.fr, .bool q.mo, .bool q.dn, .string q.op, .string q.da] 23)).cell? ⟨w.heap.size, 8, none⟩ = some (.string p.op) ∧ ((w.alloc (.cells #[.int .i64 p.f, .int .i64 p.t, .int .i64 p.tl, .int .i64 p.pr, .int .i64 p.id, .int .i64 p.fr, .bool p.mo, .bool p.dn, .string p.op, .string p.da] 23)).alloc (.cells #[.int .i64 q.f, .int .i64 q.t, .int .i64 q.tl, .int .i64 q.pr, .int .i64 q.id, .int .i64 q.fr, .bool q.mo, .bool q.dn, .string q.op, .string q.da] 23)).cell? ⟨w.heap.size, 9, none⟩ = some (.string p.da) ∧ ((w.alloc (.cells #[.int .i64 p.f, .int .i64 p.t, .int .i64 p.tl, .int .i64 p.pr, .int .i64 p.id, .int .i64 p.fr, .bool p.mo, .bool p.dn, .string p.op, .string p.da] 23)).alloc (.cells #[.int .i64 q.f, .int .i64 q.t, .int .i64 q.tl, .int .i64 q.pr, .int .i64 q.id, .int .i64 q.fr, .bool q.mo, .bool q.dn, .string q.op, .string q.da] 23)).cell? ⟨w.heap.size + 1, 0, none⟩ = some (.int .i64 q.f) ∧ ((w.alloc (.cells #[.int .i64 p.f, .int .i64 p.t, .int .i64 p.tl, .int .i64 p.pr, .int .i64 p.id, .int .i64 p.fr, .bool p.mo, .bool p.dn, .string p.op, .string p.da] 23)).alloc (.cells #[.int .i64 q.f, .int .i64 q.t, .int .i64 q.tl, .int .i64 q.pr, .int .i64 q.id, .int .i64 q.fr, .bool q.mo, .bool q.dn, .string q.op, .string q.da] 23)).cell? ⟨w.heap.size + 1, 1, none⟩ = some (.int .i64 q.t) ∧ ((w.alloc (.cells #[.int .i64 p.f, .int .i64 p.t, .int .i64 p.tl, .int .i64 p.pr, .int .i64 p.id, .int .i64 p.fr, .bool p.mo, .bool p.dn, .string p.op, .string p.da] 23)).alloc (.cells #[.int .i64 q.f, .int .i64 q.t, .int .i64 q.tl, .int .i64 q.pr, .int .i64 q.id, .int .i64 q.fr, .bool q.mo, .bool q.dn, .string q.op, .string q.da] 23)).cell? ⟨w.heap.size + 1, 2, none⟩ = some (.int .i64 q.tl) ∧ ((w.alloc (.cells #[.int .i64 p.f, .int .i64 p.t, .int .i64 p.tl, .int .i64 p.pr, .int .i64 p.id, .int .i64 p.fr, .bool p.mo, .bool p.dn, .string p.op, .string p.da] 23)).alloc (.cells #[.int .i64 q.f, .int .i64 q.t, .int .i64 q.tl, .int .i64 q.pr, .int .i64 q.id, .int .i64 q.fr, .bool q.mo, .bool q.dn, .string q.op, .string q.da] 23)).cell? ⟨w.heap.size + 1, 3, none⟩ = some (.int .i64 q.pr) ∧ ((w.alloc (.cells #[.int .i64 p.f, .int .i64 p.t, .int .i64 p.tl, .int .i64 p.pr, .int .i64 p.id, .int .i64 p.fr, .bool p.mo, .bool p.dn, .string p.op, .string p.da] 23)).alloc (.cells #[.int .i64 q.f, .int .i64 q.t, .int .i64 q.tl, .int .i64 q.pr, .int .i64 q.id, .int .i64 q.fr, .bool q.mo, .bool q.dn, .string q.op, .string q.da] 23)).cell? ⟨w.heap.size + 1, 4, none⟩ = some (.int .i64 q.id) ∧ ((w.alloc (.cells #[.int .i64 p.f, .int .i64 p.t, .int .i64 p.tl, .int .i64 p.pr, .int .i64 p.id, .int .i64 p.fr, .bool p.mo, .bool p.dn, .string p.op, .string p.da] 23)).alloc (.cells #[.int .i64 q.f, .int .i64 q.t, .int .i64 q.tl, .int .i64 q.pr, .int .i64 q.id, .int .i64 q.fr, .bool q.mo, .bool q.dn, .string q.op, .string q.da] 23)).cell? ⟨w.heap.size + 1, 5, none⟩ = some (.int .i64 q.fr) ∧ ((w.alloc (.cells #[.int .i64 p.f, .int .i64 p.t, .int .i64 p.tl, .int .i64 p.pr, .int .i64 p.id, .int .i64 p.fr, .bool p.mo, .bool p.dn, .string p.op, .string p.da] 23)).alloc (.cells #[.int .i64 q.f, .int .i64 q.t, .int .i64 q.tl, .int .i64 q.pr, .int .i64 q.id, .int .i64 q.fr, .bool q.mo, .bool q.dn, .string q.op, .string q.da] 23)).cell? ⟨w.heap.size + 1, 6, none⟩ = some (.bool q.mo) ∧ ((w.alloc (.cells #[.int .i64 p.f, .int .i64 p.t, .int .i64 p.tl, .int .i64 p.pr, .int .i64 p.id, .int .i64 p.fr, .bool p.mo, .bool p.dn, .string p.op, .string p.da] 23)).alloc (.cells #[.int .i64 q.f, .int .i64 q.t, .int .i64 q.tl, .int .i64 q.pr, .int .i64 q.id, .int .i64 q.fr, .bool q.mo, .bool q.dn, .string q.op, .string q.da] 23)).cell? ⟨w.heap.size + 1, 7, none⟩ = some (.bool q.dn) ∧ ((w.alloc (.cells #[.int .i64 p.f, .int .i64 p.t, .int .i64 p.tl, .int .i64 p.pr, .int .i64 p.id, .int .i64 p.fr, .bool p.mo, .bool p.dn, .string p.op, .string p.da] 23)).alloc (.cells #[.int .i64 q.f, .int .i64 q.t, .int .i64 q.tl, .int .i64 q.pr, .int .i64 q.id, .int .i64 q.fr, .bool q.mo, .bool q.dn, .string q.op, .string q.da] 23)).cell? ⟨w.heap.size + 1, 8, none⟩ = some (.string q.op) ∧ ((w.alloc (.cells #[.int .i64 p.f, .int .i64 p.t, .int .i64 p.tl, .int .i64 p.pr, .int .i64 p.id, .int .i64 p.fr, .bool p.mo, .bool p.dn, .string p.op, .string p.da] 23)).alloc (.cells #[.int .i64 q.f, .int .i64 q.t, .int .i64 q.tl, .int .i64 q.pr, .int .i64 q.id, .int .i64 q.fr, .bool q.mo, .bool q.dn, .string q.op, .string q.da] 23)).cell? ⟨w.heap.size + 1, 9, none⟩ = some (.string q.da) := ⟨hl, c0, c1, c2, c3, c4, c5, c6, c7, c8, c9, d0, d1, d2, d3, d4, d5, d6, d7, d8, d9⟩
  clear hA hB hl c0 c1 c2 c3 c4 c5 c6 c7 c8 c9 d0 d1 d2 d3 d4 d5 d6 d7 d8 d9
  by_cases hg : p.fr * 8 < q.fr * 8 + (q.da.size : Int)
  · have e1 : ovB p q = decide (q.fr * 8 < p.fr * 8 + (p.da.size : Int)) := by
      unfold ovB Pk.st Pk.en
      rw [decide_eq_true hg, Bool.true_and]
    rw [e1]
    clear e1
    go_enter Tryz.func94, Tryz.ntmps94
    go_upto_region 1 with fail
    generalize (w.alloc (.cells #[.int .i64 p.f, .int .i64 p.t, .int .i64 p.tl, .int .i64 p.pr, .int .i64 p.id, .int .i64 p.fr, .bool p.mo, .bool p.dn, .string p.op, .string p.da] 23)).alloc (.cells #[.int .i64 q.f, .int .i64 q.t, .int .i64 q.tl, .int .i64 q.pr, .int .i64 q.id, .int .i64 q.fr, .bool q.mo, .bool q.dn, .string q.op, .string q.da] 23) = W0 at hx5 ⊢
    go_region_held3 (fun W => Below w.heap.size w W ∧ W.cell? ⟨w.heap.size, 0, none⟩ = some (.int .i64 p.f) ∧ W.cell? ⟨w.heap.size, 1, none⟩ = some (.int .i64 p.t) ∧ W.cell? ⟨w.heap.size, 2, none⟩ = some (.int .i64 p.tl) ∧ W.cell? ⟨w.heap.size, 3, none⟩ = some (.int .i64 p.pr) ∧ W.cell? ⟨w.heap.size, 4, none⟩ = some (.int .i64 p.id) ∧ W.cell? ⟨w.heap.size, 5, none⟩ = some (.int .i64 p.fr) ∧ W.cell? ⟨w.heap.size, 6, none⟩ = some (.bool p.mo) ∧ W.cell? ⟨w.heap.size, 7, none⟩ = some (.bool p.dn) ∧ W.cell? ⟨w.heap.size, 8, none⟩ = some (.string p.op) ∧ W.cell? ⟨w.heap.size, 9, none⟩ = some (.string p.da) ∧ W.cell? ⟨w.heap.size + 1, 0, none⟩ = some (.int .i64 q.f) ∧ W.cell? ⟨w.heap.size + 1, 1, none⟩ = some (.int .i64 q.t) ∧ W.cell? ⟨w.heap.size + 1, 2, none⟩ = some (.int .i64 q.tl) ∧ W.cell? ⟨w.heap.size + 1, 3, none⟩ = some (.int .i64 q.pr) ∧ W.cell? ⟨w.heap.size + 1, 4, none⟩ = some (.int .i64 q.id) ∧ W.cell? ⟨w.heap.size + 1, 5, none⟩ = some (.int .i64 q.fr) ∧ W.cell? ⟨w.heap.size + 1, 6, none⟩ = some (.bool q.mo) ∧ W.cell? ⟨w.heap.size + 1, 7, none⟩ = some (.bool q.dn) ∧ W.cell? ⟨w.heap.size + 1, 8, none⟩ = some (.string q.op) ∧ W.cell? ⟨w.heap.size + 1, 9, none⟩ = some (.string q.da)) (first | assumption | exact ⟨hx5.1.drew, hx5.2.1, hx5.2.2.1, hx5.2.2.2.1, hx5.2.2.2.2.1, hx5.2.2.2.2.2.1, hx5.2.2.2.2.2.2.1, hx5.2.2.2.2.2.2.2.1, hx5.2.2.2.2.2.2.2.2.1, hx5.2.2.2.2.2.2.2.2.2.1, hx5.2.2.2.2.2.2.2.2.2.2.1, hx5.2.2.2.2.2.2.2.2.2.2.2.1, hx5.2.2.2.2.2.2.2.2.2.2.2.2.1, hx5.2.2.2.2.2.2.2.2.2.2.2.2.2.1, hx5.2.2.2.2.2.2.2.2.2.2.2.2.2.2.1, hx5.2.2.2.2.2.2.2.2.2.2.2.2.2.2.2.1, hx5.2.2.2.2.2.2.2.2.2.2.2.2.2.2.2.2.1, hx5.2.2.2.2.2.2.2.2.2.2.2.2.2.2.2.2.2.1, hx5.2.2.2.2.2.2.2.2.2.2.2.2.2.2.2.2.2.2.1, hx5.2.2.2.2.2.2.2.2.2.2.2.2.2.2.2.2.2.2.2.1, hx5.2.2.2.2.2.2.2.2.2.2.2.2.2.2.2.2.2.2.2.2⟩ | (refine keep20 hb ?_; assumption)) (first | (go_at_call 78; refine (start_any p _ h).mono ?_; rintro e w' ⟨rfl, hb⟩) | (go_at_call 78; refine (start_any q _ k).mono ?_; rintro e w' ⟨rfl, hb⟩) | (go_at_call 72; refine (end_any p _ h).mono ?_; rintro e w' ⟨rfl, hb⟩) | (go_at_call 72; refine (end_any q _ k).mono ?_; rintro e w' ⟨rfl, hb⟩))
    all_goals
      go_wp2
      go_ret
      rename_i hq
      exact ⟨by first | rfl | (simp <;> omega), hq.1⟩
  · have e1 : ovB p q = false := by
      unfold ovB Pk.st Pk.en
      rw [decide_eq_false hg, Bool.false_and]
    rw [e1]
    clear e1
    have hgd : decide (p.fr * 8 < q.fr * 8 + (q.da.size : Int)) = false := decide_eq_false hg
    have hge : q.fr * 8 + (q.da.size : Int) ≤ p.fr * 8 := by omega
    go_enter Tryz.func94, Tryz.ntmps94
    go_upto_region 1 with fail
    generalize (w.alloc (.cells #[.int .i64 p.f, .int .i64 p.t, .int .i64 p.tl, .int .i64 p.pr, .int .i64 p.id, .int .i64 p.fr, .bool p.mo, .bool p.dn, .string p.op, .string p.da] 23)).alloc (.cells #[.int .i64 q.f, .int .i64 q.t, .int .i64 q.tl, .int .i64 q.pr, .int .i64 q.id, .int .i64 q.fr, .bool q.mo, .bool q.dn, .string q.op, .string q.da] 23) = W0 at hx5 ⊢
    refine wp_region_held_drew (S := (fun W => Below w.heap.size w W ∧ W.cell? ⟨w.heap.size, 0, none⟩ = some (.int .i64 p.f) ∧ W.cell? ⟨w.heap.size, 1, none⟩ = some (.int .i64 p.t) ∧ W.cell? ⟨w.heap.size, 2, none⟩ = some (.int .i64 p.tl) ∧ W.cell? ⟨w.heap.size, 3, none⟩ = some (.int .i64 p.pr) ∧ W.cell? ⟨w.heap.size, 4, none⟩ = some (.int .i64 p.id) ∧ W.cell? ⟨w.heap.size, 5, none⟩ = some (.int .i64 p.fr) ∧ W.cell? ⟨w.heap.size, 6, none⟩ = some (.bool p.mo) ∧ W.cell? ⟨w.heap.size, 7, none⟩ = some (.bool p.dn) ∧ W.cell? ⟨w.heap.size, 8, none⟩ = some (.string p.op) ∧ W.cell? ⟨w.heap.size, 9, none⟩ = some (.string p.da) ∧ W.cell? ⟨w.heap.size + 1, 0, none⟩ = some (.int .i64 q.f) ∧ W.cell? ⟨w.heap.size + 1, 1, none⟩ = some (.int .i64 q.t) ∧ W.cell? ⟨w.heap.size + 1, 2, none⟩ = some (.int .i64 q.tl) ∧ W.cell? ⟨w.heap.size + 1, 3, none⟩ = some (.int .i64 q.pr) ∧ W.cell? ⟨w.heap.size + 1, 4, none⟩ = some (.int .i64 q.id) ∧ W.cell? ⟨w.heap.size + 1, 5, none⟩ = some (.int .i64 q.fr) ∧ W.cell? ⟨w.heap.size + 1, 6, none⟩ = some (.bool q.mo) ∧ W.cell? ⟨w.heap.size + 1, 7, none⟩ = some (.bool q.dn) ∧ W.cell? ⟨w.heap.size + 1, 8, none⟩ = some (.string q.op) ∧ W.cell? ⟨w.heap.size + 1, 9, none⟩ = some (.string q.da))) (by kernel_rfl) ?_ (fun hHeld => ?_)
    · first | exact ⟨hx5.1.drew, hx5.2.1, hx5.2.2.1, hx5.2.2.2.1, hx5.2.2.2.2.1, hx5.2.2.2.2.2.1, hx5.2.2.2.2.2.2.1, hx5.2.2.2.2.2.2.2.1, hx5.2.2.2.2.2.2.2.2.1, hx5.2.2.2.2.2.2.2.2.2.1, hx5.2.2.2.2.2.2.2.2.2.2.1, hx5.2.2.2.2.2.2.2.2.2.2.2.1, hx5.2.2.2.2.2.2.2.2.2.2.2.2.1, hx5.2.2.2.2.2.2.2.2.2.2.2.2.2.1, hx5.2.2.2.2.2.2.2.2.2.2.2.2.2.2.1, hx5.2.2.2.2.2.2.2.2.2.2.2.2.2.2.2.1, hx5.2.2.2.2.2.2.2.2.2.2.2.2.2.2.2.2.1, hx5.2.2.2.2.2.2.2.2.2.2.2.2.2.2.2.2.2.1, hx5.2.2.2.2.2.2.2.2.2.2.2.2.2.2.2.2.2.2.1, hx5.2.2.2.2.2.2.2.2.2.2.2.2.2.2.2.2.2.2.2.1, hx5.2.2.2.2.2.2.2.2.2.2.2.2.2.2.2.2.2.2.2.2⟩ | assumption
    refine wpAnyH_take (i := 0) (v := .agg #[.int .i64 p.f, .int .i64 p.t, .int .i64 p.tl, .int .i64 p.pr, .int .i64 p.id, .int .i64 p.fr, .bool p.mo, .bool p.dn, .string p.op, .string p.da]) rfl (by kernel_rfl) (by kernel_rfl) (by kernel_rfl) (fun _ _ _ h => h) (Or.inl ⟨by rfl, ?_⟩) (by assumption) ?_
    · intro wx hSw
      try dsimp only at hSw
      go_simp
      try with_reducible rfl
    try simp only [Act.put, List.setIfInBounds_toArray, List.set_cons_zero, List.set_cons_succ]
    refine wpAnyH_take (i := 2) (v := .agg #[.int .i64 q.f, .int .i64 q.t, .int .i64 q.tl, .int .i64 q.pr, .int .i64 q.id, .int .i64 q.fr, .bool q.mo, .bool q.dn, .string q.op, .string q.da]) rfl (by kernel_rfl) (by kernel_rfl) (by kernel_rfl) (fun _ _ _ h => h) (Or.inl ⟨by rfl, ?_⟩) (by assumption) ?_
    · intro wx hSw
      try dsimp only at hSw
      go_simp
      try with_reducible rfl
    try simp only [Act.put, List.setIfInBounds_toArray, List.set_cons_zero, List.set_cons_succ]
    refine wpAnyH_ready (rs := [1]) (by kernel_rfl) (by simp) ?_
    refine AllReadyH.cons rfl (fun K hK => ?_) AllReadyH.nil
    go_simp
    go_at_call 78
    refine (start_any p _ h).mono ?_
    rintro e w1 ⟨rfl, hb⟩
    first
      | refine hK.out _ _ ?_ (fun hHeld => ?_)
      | (go_wp2_with fail; refine hK.out _ _ ?_ (fun hHeld => ?_))
    · try dsimp only
      (refine keep20 hb ?_; assumption)
    clear hK K
    try simp only [Act.put, List.setIfInBounds_toArray, List.set_cons_zero, List.set_cons_succ]
    refine wpAnyH_ready (rs := [3]) (by kernel_rfl) (by simp) ?_
    refine AllReadyH.cons rfl (fun K hK => ?_) AllReadyH.nil
    go_simp
    go_at_call 72
    refine (end_any q _ k).mono ?_
    rintro e w2 ⟨rfl, hb2⟩
    first
      | refine hK.out _ _ ?_ (fun hHeld => ?_)
      | (go_wp2_with fail; refine hK.out _ _ ?_ (fun hHeld => ?_))
    · try dsimp only
      (refine keep20 hb2 ?_; assumption)
    clear hK K
    try simp only [Act.put, List.setIfInBounds_toArray, List.set_cons_zero, List.set_cons_succ]
    refine wpAnyH_take (i := 4) (v := .bool false) rfl (by kernel_rfl) (by kernel_rfl) (by kernel_rfl) (fun _ _ _ h => h) (Or.inl ⟨by rfl, ?_⟩) (by assumption) ?_
    · intro wx hSw
      try dsimp only at hSw
      go_simp
      try with_reducible rfl
    try simp only [Act.put, List.setIfInBounds_toArray, List.set_cons_zero, List.set_cons_succ]
    refine wpAnyH_take (i := 5) (v := .bool false) rfl (by kernel_rfl) (by kernel_rfl) (by kernel_rfl) (fun _ _ _ h => h) (Or.inl ⟨by rfl, ?_⟩) (by assumption) ?_
    · intro wx hSw
      try dsimp only at hSw
      go_simp
      try with_reducible rfl
    try simp only [Act.put, List.setIfInBounds_toArray, List.set_cons_zero, List.set_cons_succ]
    refine wpAnyH_take (i := 6) (v := undef) rfl (by kernel_rfl) (by kernel_rfl) (by kernel_rfl) (fun _ _ _ h => h) (Or.inr ⟨by rfl, rfl⟩) (by assumption) ?_
    try simp only [Act.put, List.setIfInBounds_toArray, List.set_cons_zero, List.set_cons_succ]
    refine wpAnyH_take (i := 8) (v := undef) rfl (by kernel_rfl) (by kernel_rfl) (by kernel_rfl) (fun _ _ _ h => h) (Or.inr ⟨by rfl, rfl⟩) (by assumption) ?_
    try simp only [Act.put, List.setIfInBounds_toArray, List.set_cons_zero, List.set_cons_succ]
    refine wpAnyH_take (i := 7) (v := undef) rfl (by kernel_rfl) (by kernel_rfl) (by kernel_rfl) (fun _ _ _ h => h) (Or.inr ⟨by rfl, rfl⟩) (by assumption) ?_
    try simp only [Act.put, List.setIfInBounds_toArray, List.set_cons_zero, List.set_cons_succ]
    refine wpAnyH_take (i := 9) (v := undef) rfl (by kernel_rfl) (by kernel_rfl) (by kernel_rfl) (fun _ _ _ h => h) (Or.inr ⟨by rfl, rfl⟩) (by assumption) ?_
    try simp only [Act.put, List.setIfInBounds_toArray, List.set_cons_zero, List.set_cons_succ]
    refine wpAnyH_take (i := 10) (v := undef) rfl (by kernel_rfl) (by kernel_rfl) (by kernel_rfl) (fun _ _ _ h => h) (Or.inr ⟨by rfl, rfl⟩) (by assumption) ?_
    try simp only [Act.put, List.setIfInBounds_toArray, List.set_cons_zero, List.set_cons_succ]
    refine wpAnyH_take (i := 11) (v := .bool false) rfl (by kernel_rfl) (by kernel_rfl) (by kernel_rfl) (fun _ _ _ h => h) (Or.inl ⟨by rfl, ?_⟩) (by assumption) ?_
    · intro wx hSw
      try dsimp only at hSw
      go_simp
      try with_reducible rfl
    try simp only [Act.put, List.setIfInBounds_toArray, List.set_cons_zero, List.set_cons_succ]
    refine wpAnyH_take (i := 12) (v := .bool false) rfl (by kernel_rfl) (by kernel_rfl) (by kernel_rfl) (fun _ _ _ h => h) (Or.inl ⟨by rfl, ?_⟩) (by assumption) ?_
    · intro wx hSw
      try dsimp only at hSw
      go_simp
      try with_reducible rfl
    try simp only [Act.put, List.setIfInBounds_toArray, List.set_cons_zero, List.set_cons_succ]
    refine wpAnyH_done (by kernel_rfl) ?_ _
    go_wp2
    go_ret
    exact ⟨rfl, hHeld.1⟩
set_option maxHeartbeats 4000000 in
theorem past_any (p q : Pk) (w : World) (h : p.Fine) (k : q.Fine) : Calls Tryz.prog 95 #[.agg #[.int .i64 p.f, .int .i64 p.t, .int .i64 p.tl, .int .i64 p.pr, .int .i64 p.id, .int .i64 p.fr, .bool p.mo, .bool p.dn, .string p.op, .string p.da], .agg #[.int .i64 q.f, .int .i64 q.t, .int .i64 q.tl, .int .i64 q.pr, .int .i64 q.id, .int .i64 q.fr, .bool q.mo, .bool q.dn, .string q.op, .string q.da]] w fun e w' => e = .returned (.bool (pastB p q)) ∧ Below w.heap.size w w' := by
  have h0 := h.f0
  have h1 := h.f1
  have h2 := h.dl
  have k0 := k.f0
  have k1 := k.f1
  have k2 := k.dl
  have hA := (At.box w #[.int .i64 p.f, .int .i64 p.t, .int .i64 p.tl, .int .i64 p.pr, .int .i64 p.id, .int .i64 p.fr, .bool p.mo, .bool p.dn, .string p.op, .string p.da] 23).later (bel1 _ (.cells #[.int .i64 q.f, .int .i64 q.t, .int .i64 q.tl, .int .i64 q.pr, .int .i64 q.id, .int .i64 q.fr, .bool q.mo, .bool q.dn, .string q.op, .string q.da] 23))
  have hB := At.box2 w (.cells #[.int .i64 p.f, .int .i64 p.t, .int .i64 p.tl, .int .i64 p.pr, .int .i64 p.id, .int .i64 p.fr, .bool p.mo, .bool p.dn, .string p.op, .string p.da] 23) #[.int .i64 q.f, .int .i64 q.t, .int .i64 q.tl, .int .i64 q.pr, .int .i64 q.id, .int .i64 q.fr, .bool q.mo, .bool q.dn, .string q.op, .string q.da] 23
  have hl := bt (bel1 w (.cells #[.int .i64 p.f, .int .i64 p.t, .int .i64 p.tl, .int .i64 p.pr, .int .i64 p.id, .int .i64 p.fr, .bool p.mo, .bool p.dn, .string p.op, .string p.da] 23)) (bel1 _ (.cells #[.int .i64 q.f, .int .i64 q.t, .int .i64 q.tl, .int .i64 q.pr, .int .i64 q.id, .int .i64 q.fr, .bool q.mo, .bool q.dn, .string q.op, .string q.da] 23))
  obtain ⟨⟨c0, c1, c2, c3, c4, c5, c6, c7, c8, c9⟩, -, -⟩ := hA.ten
  obtain ⟨⟨d0, d1, d2, d3, d4, d5, d6, d7, d8, d9⟩, -, -⟩ := hB.ten
  have hx5 : Below w.heap.size w ((w.alloc (.cells #[.int .i64 p.f, .int .i64 p.t, .int .i64 p.tl, .int .i64 p.pr, .int .i64 p.id, .int .i64 p.fr, .bool p.mo, .bool p.dn, .string p.op, .string p.da] 23)).alloc (.cells #[.int .i64 q.f, .int .i64 q.t, .int .i64 q.tl, .int .i64 q.pr, .int .i64 q.id, .int .i64 q.fr, .bool q.mo, .bool q.dn, .string q.op, .string q.da] 23)) ∧ ((w.alloc (.cells #[.int .i64 p.f, .int .i64 p.t, .int .i64 p.tl, .int .i64 p.pr, .int .i64 p.id, .int .i64 p.fr, .bool p.mo, .bool p.dn, .string p.op, .string p.da] 23)).alloc (.cells #[.int .i64 q.f, .int .i64 q.t, .int .i64 q.tl, .int .i64 q.pr, .int .i64 q.id, .int .i64 q.fr, .bool q.mo, .bool q.dn, .string q.op, .string q.da] 23)).cell? ⟨w.heap.size, 0, none⟩ = some (.int .i64 p.f) ∧ ((w.alloc (.cells #[.int .i64 p.f, .int .i64 p.t, .int .i64 p.tl, .int .i64 p.pr, .int .i64 p.id, .int .i64 p.fr, .bool p.mo, .bool p.dn, .string p.op, .string p.da] 23)).alloc (.cells #[.int .i64 q.f, .int .i64 q.t, .int .i64 q.tl, .int .i64 q.pr, .int .i64 q.id, .int .i64 q.fr, .bool q.mo, .bool q.dn, .string q.op, .string q.da] 23)).cell? ⟨w.heap.size, 1, none⟩ = some (.int .i64 p.t) ∧ ((w.alloc (.cells #[.int .i64 p.f, .int .i64 p.t, .int .i64 p.tl, .int .i64 p.pr, .int .i64 p.id, .int .i64 p.fr, .bool p.mo, .bool p.dn, .string p.op, .string p.da] 23)).alloc (.cells #[.int .i64 q.f, .int .i64 q.t, .int .i64 q.tl, .int .i64 q.pr, .int .i64 q.id, .int .i64 q.fr, .bool q.mo, .bool q.dn, .string q.op, .string q.da] 23)).cell? ⟨w.heap.size, 2, none⟩ = some (.int .i64 p.tl) ∧ ((w.alloc (.cells #[.int .i64 p.f, .int .i64 p.t, .int .i64 p.tl, .int .i64 p.pr, .int .i64 p.id, .int .i64 p.fr, .bool p.mo, .bool p.dn, .string p.op, .string p.da] 23)).alloc (.cells #[.int .i64 q.f, .int .i64 q.t, .int .i64 q.tl, .int .i64 q.pr, .int .i64 q.id, .int .i64 q.fr, .bool q.mo, .bool q.dn, .string q.op, .string q.da] 23)).cell? ⟨w.heap.size, 3, none⟩ = some (.int .i64 p.pr) ∧ ((w.alloc (.cells #[.int .i64 p.f, .int .i64 p.t, .int .i64 p.tl, .int .i64 p.pr, .int .i64 p.id, .int .i64 p.fr, .bool p.mo, .bool p.dn, .string p.op, .string p.da] 23)).alloc (.cells #[.int .i64 q.f, .int .i64 q.t, .int .i64 q.tl, .int .i64 q.pr, .int .i64 q.id, .int .i64 q.fr, .bool q.mo, .bool q.dn, .string q.op, .string q.da] 23)).cell? ⟨w.heap.size, 4, none⟩ = some (.int .i64 p.id) ∧ ((w.alloc (.cells #[.int .i64 p.f, .int .i64 p.t, .int .i64 p.tl, .int .i64 p.pr, .int .i64 p.id, .int .i64 p.fr, .bool p.mo, .bool p.dn, .string p.op, .string p.da] 23)).alloc (.cells #[.int .i64 q.f, .int .i64 q.t, .int .i64 q.tl, .int .i64 q.pr, .int .i64 q.id, .int .i64 q.fr, .bool q.mo, .bool q.dn, .string q.op, .string q.da] 23)).cell? ⟨w.heap.size, 5, none⟩ = some (.int .i64 p.fr) ∧ ((w.alloc (.cells #[.int .i64 p.f, .int .i64 p.t, .int .i64 p.tl, .int .i64 p.pr, .int .i64 p.id, .int .i64 p.fr, .bool p.mo, .bool p.dn, .string p.op, .string p.da] 23)).alloc (.cells #[.int .i64 q.f, .int .i64 q.t, .int .i64 q.tl, .int .i64 q.pr, .int .i64 q.id, .int .i64 q.fr, .bool q.mo, .bool q.dn, .string q.op, .string q.da] 23)).cell? ⟨w.heap.size, 6, none⟩ = some (.bool p.mo) ∧ ((w.alloc (.cells #[.int .i64 p.f, .int .i64 p.t, .int .i64 p.tl, .int .i64 p.pr, .int .i64 p.id, .int .i64 p.fr, .bool p.mo, .bool p.dn, .string p.op, .string p.da] 23)).alloc (.cells #[.int .i64 q.f, .int .i64 q.t, .int .i64 q.tl, .int .i64 q.pr, .int .i64 q.id, .int .i64 q.fr, .bool q.mo, .bool q.dn, .string q.op, .string q.da] 23)).cell? ⟨w.heap.size, 7, none⟩ = some (.bool p.dn) ∧ ((w.alloc (.cells #[.int .i64 p.f, .int .i64 p.t, .int .i64 p.tl, .int .i64 p.pr, .int .i64 p.id, .int .i64 p.fr, .bool p.mo, .bool p.dn, .string p.op, .string p.da] 23)).alloc (.cells #[.int .i64 q.f, .int .i64 q.t, .int .i64 q.tl, .int .i64 q.pr, .int .i64 q.id, .int .i64 q.fr, .bool q.mo, .bool q.dn, .string q.op, .string q.da] 23)).cell? ⟨w.heap.size, 8, none⟩ = some (.string p.op) ∧ ((w.alloc (.cells #[.int .i64 p.f, .int .i64 p.t, .int .i64 p.tl, .int .i64 p.pr, .int .i64 p.id, .int .i64 p.fr, .bool p.mo, .bool p.dn, .string p.op, .string p.da] 23)).alloc (.cells #[.int .i64 q.f, .int .i64 q.t, .int .i64 q.tl, .int .i64 q.pr, .int .i64 q.id, .int .i64 q.fr, .bool q.mo, .bool q.dn, .string q.op, .string q.da] 23)).cell? ⟨w.heap.size, 9, none⟩ = some (.string p.da) ∧ ((w.alloc (.cells #[.int .i64 p.f, .int .i64 p.t, .int .i64 p.tl, .int .i64 p.pr, .int .i64 p.id, .int .i64 p.fr, .bool p.mo, .bool p.dn, .string p.op, .string p.da] 23)).alloc (.cells #[.int .i64 q.f, .int .i64 q.t, .int .i64 q.tl, .int .i64 q.pr, .int .i64 q.id, .int .i64 q.fr, .bool q.mo, .bool q.dn, .string q.op, .string q.da] 23)).cell? ⟨w.heap.size + 1, 0, none⟩ = some (.int .i64 q.f) ∧ ((w.alloc (.cells #[.int .i64 p.f, .int .i64 p.t, .int .i64 p.tl, .int .i64 p.pr, .int .i64 p.id, .int .i64 p.fr, .bool p.mo, .bool p.dn, .string p.op, .string p.da] 23)).alloc (.cells #[.int .i64 q.f, .int .i64 q.t, .int .i64 q.tl, .int .i64 q.pr, .int .i64 q.id, .int .i64 q.fr, .bool q.mo, .bool q.dn, .string q.op, .string q.da] 23)).cell? ⟨w.heap.size + 1, 1, none⟩ = some (.int .i64 q.t) ∧ ((w.alloc (.cells #[.int .i64 p.f, .int .i64 p.t, .int .i64 p.tl, .int .i64 p.pr, .int .i64 p.id, .int .i64 p.fr, .bool p.mo, .bool p.dn, .string p.op, .string p.da] 23)).alloc (.cells #[.int .i64 q.f, .int .i64 q.t, .int .i64 q.tl, .int .i64 q.pr, .int .i64 q.id, .int .i64 q.fr, .bool q.mo, .bool q.dn, .string q.op, .string q.da] 23)).cell? ⟨w.heap.size + 1, 2, none⟩ = some (.int .i64 q.tl) ∧ ((w.alloc (.cells #[.int .i64 p.f, .int .i64 p.t, .int .i64 p.tl, .int .i64 p.pr, .int .i64 p.id, .int .i64 p.fr, .bool p.mo, .bool p.dn, .string p.op, .string p.da] 23)).alloc (.cells #[.int .i64 q.f, .int .i64 q.t, .int .i64 q.tl, .int .i64 q.pr, .int .i64 q.id, .int .i64 q.fr, .bool q.mo, .bool q.dn, .string q.op, .string q.da] 23)).cell? ⟨w.heap.size + 1, 3, none⟩ = some (.int .i64 q.pr) ∧ ((w.alloc (.cells #[.int .i64 p.f, .int .i64 p.t, .int .i64 p.tl, .int .i64 p.pr, .int .i64 p.id, .int .i64 p.fr, .bool p.mo, .bool p.dn, .string p.op, .string p.da] 23)).alloc (.cells #[.int .i64 q.f, .int .i64 q.t, .int .i64 q.tl, .int .i64 q.pr, .int .i64 q.id, .int .i64 q.fr, .bool q.mo, .bool q.dn, .string q.op, .string q.da] 23)).cell? ⟨w.heap.size + 1, 4, none⟩ = some (.int .i64 q.id) ∧ ((w.alloc (.cells #[.int .i64 p.f, .int .i64 p.t, .int .i64 p.tl, .int .i64 p.pr, .int .i64 p.id, .int .i64 p.fr, .bool p.mo, .bool p.dn, .string p.op, .string p.da] 23)).alloc (.cells #[.int .i64 q.f, .int .i64 q.t, .int .i64 q.tl, .int .i64 q.pr, .int .i64 q.id, .int .i64 q.fr, .bool q.mo, .bool q.dn, .string q.op, .string q.da] 23)).cell? ⟨w.heap.size + 1, 5, none⟩ = some (.int .i64 q.fr) ∧ ((w.alloc (.cells #[.int .i64 p.f, .int .i64 p.t, .int .i64 p.tl, .int .i64 p.pr, .int .i64 p.id, .int .i64 p.fr, .bool p.mo, .bool p.dn, .string p.op, .string p.da] 23)).alloc (.cells #[.int .i64 q.f, .int .i64 q.t, .int .i64 q.tl, .int .i64 q.pr, .int .i64 q.id, .int .i64 q.fr, .bool q.mo, .bool q.dn, .string q.op, .string q.da] 23)).cell? ⟨w.heap.size + 1, 6, none⟩ = some (.bool q.mo) ∧ ((w.alloc (.cells #[.int .i64 p.f, .int .i64 p.t, .int .i64 p.tl, .int .i64 p.pr, .int .i64 p.id, .int .i64 p.fr, .bool p.mo, .bool p.dn, .string p.op, .string p.da] 23)).alloc (.cells #[.int .i64 q.f, .int .i64 q.t, .int .i64 q.tl, .int .i64 q.pr, .int .i64 q.id, .int .i64 q.fr, .bool q.mo, .bool q.dn, .string q.op, .string q.da] 23)).cell? ⟨w.heap.size + 1, 7, none⟩ = some (.bool q.dn) ∧ ((w.alloc (.cells #[.int .i64 p.f, .int .i64 p.t, .int .i64 p.tl, .int .i64 p.pr, .int .i64 p.id, .int .i64 p.fr, .bool p.mo, .bool p.dn, .string p.op, .string p.da] 23)).alloc (.cells #[.int .i64 q.f, .int .i64 q.t, .int .i64 q.tl, .int .i64 q.pr, .int .i64 q.id, .int .i64 q.fr, .bool q.mo, .bool q.dn, .string q.op, .string q.da] 23)).cell? ⟨w.heap.size + 1, 8, none⟩ = some (.string q.op) ∧ ((w.alloc (.cells #[.int .i64 p.f, .int .i64 p.t, .int .i64 p.tl, .int .i64 p.pr, .int .i64 p.id, .int .i64 p.fr, .bool p.mo, .bool p.dn, .string p.op, .string p.da] 23)).alloc (.cells #[.int .i64 q.f, .int .i64 q.t, .int .i64 q.tl, .int .i64 q.pr, .int .i64 q.id, .int .i64 q.fr, .bool q.mo, .bool q.dn, .string q.op, .string q.da] 23)).cell? ⟨w.heap.size + 1, 9, none⟩ = some (.string q.da) := ⟨hl, c0, c1, c2, c3, c4, c5, c6, c7, c8, c9, d0, d1, d2, d3, d4, d5, d6, d7, d8, d9⟩
  clear hA hB hl c0 c1 c2 c3 c4 c5 c6 c7 c8 c9 d0 d1 d2 d3 d4 d5 d6 d7 d8 d9
  cases hm : q.mo with
  | true =>
    have e1 : pastB p q = false := by unfold pastB; rw [hm]; rfl
    rw [e1]
    rw [hm] at hx5
    clear e1
    go_enter Tryz.func95, Tryz.ntmps95
    go_upto_region 1 with fail
    have m6 : ∀ nn, (((w.alloc (.cells #[.int .i64 p.f, .int .i64 p.t, .int .i64 p.tl, .int .i64 p.pr, .int .i64 p.id, .int .i64 p.fr, .bool p.mo, .bool p.dn, .string p.op, .string p.da] 23)).alloc (.cells #[.int .i64 q.f, .int .i64 q.t, .int .i64 q.tl, .int .i64 q.pr, .int .i64 q.id, .int .i64 q.fr, .bool true, .bool q.dn, .string q.op, .string q.da] 23)).drewN nn).cell? ⟨w.heap.size + 1, 6, none⟩ = some (.bool true) := fun nn => hx5.2.2.2.2.2.2.2.2.2.2.2.2.2.2.2.2.2.1
    have hb0 := hx5.1
    clear hx5
    generalize (w.alloc (.cells #[.int .i64 p.f, .int .i64 p.t, .int .i64 p.tl, .int .i64 p.pr, .int .i64 p.id, .int .i64 p.fr, .bool p.mo, .bool p.dn, .string p.op, .string p.da] 23)).alloc (.cells #[.int .i64 q.f, .int .i64 q.t, .int .i64 q.tl, .int .i64 q.pr, .int .i64 q.id, .int .i64 q.fr, .bool true, .bool q.dn, .string q.op, .string q.da] 23) = W0 at *
    have m60 := m6 0
    go_quiet (fail)
    have qd := below_drewN hb0 nq
    go_wp2
    go_ret
    exact ⟨by simp <;> omega, qd⟩
  | false =>
    have e1 : pastB p q = decide (q.fr * 8 + (q.da.size : Int) < p.fr * 8 + (p.da.size : Int)) := by unfold pastB; rw [hm]; rfl
    rw [e1]
    rw [hm] at hx5
    clear e1
    have kE : ∀ W, Calls Tryz.prog 72 #[.agg #[.int .i64 q.f, .int .i64 q.t, .int .i64 q.tl, .int .i64 q.pr, .int .i64 q.id, .int .i64 q.fr, .bool false, .bool q.dn, .string q.op, .string q.da]] W fun e w' => e = .returned (.int .i64 (q.fr * 8 + (q.da.size : Int))) ∧ Below W.heap.size W w' := fun W => by have := end_any q W k; rw [hm] at this; exact this
    go_enter Tryz.func95, Tryz.ntmps95
    go_upto_region 1 with fail
    generalize (w.alloc (.cells #[.int .i64 p.f, .int .i64 p.t, .int .i64 p.tl, .int .i64 p.pr, .int .i64 p.id, .int .i64 p.fr, .bool p.mo, .bool p.dn, .string p.op, .string p.da] 23)).alloc (.cells #[.int .i64 q.f, .int .i64 q.t, .int .i64 q.tl, .int .i64 q.pr, .int .i64 q.id, .int .i64 q.fr, .bool false, .bool q.dn, .string q.op, .string q.da] 23) = W0 at hx5 ⊢
    go_region_held3 (fun W => Below w.heap.size w W ∧ W.cell? ⟨w.heap.size, 0, none⟩ = some (.int .i64 p.f) ∧ W.cell? ⟨w.heap.size, 1, none⟩ = some (.int .i64 p.t) ∧ W.cell? ⟨w.heap.size, 2, none⟩ = some (.int .i64 p.tl) ∧ W.cell? ⟨w.heap.size, 3, none⟩ = some (.int .i64 p.pr) ∧ W.cell? ⟨w.heap.size, 4, none⟩ = some (.int .i64 p.id) ∧ W.cell? ⟨w.heap.size, 5, none⟩ = some (.int .i64 p.fr) ∧ W.cell? ⟨w.heap.size, 6, none⟩ = some (.bool p.mo) ∧ W.cell? ⟨w.heap.size, 7, none⟩ = some (.bool p.dn) ∧ W.cell? ⟨w.heap.size, 8, none⟩ = some (.string p.op) ∧ W.cell? ⟨w.heap.size, 9, none⟩ = some (.string p.da) ∧ W.cell? ⟨w.heap.size + 1, 0, none⟩ = some (.int .i64 q.f) ∧ W.cell? ⟨w.heap.size + 1, 1, none⟩ = some (.int .i64 q.t) ∧ W.cell? ⟨w.heap.size + 1, 2, none⟩ = some (.int .i64 q.tl) ∧ W.cell? ⟨w.heap.size + 1, 3, none⟩ = some (.int .i64 q.pr) ∧ W.cell? ⟨w.heap.size + 1, 4, none⟩ = some (.int .i64 q.id) ∧ W.cell? ⟨w.heap.size + 1, 5, none⟩ = some (.int .i64 q.fr) ∧ W.cell? ⟨w.heap.size + 1, 6, none⟩ = some (.bool false) ∧ W.cell? ⟨w.heap.size + 1, 7, none⟩ = some (.bool q.dn) ∧ W.cell? ⟨w.heap.size + 1, 8, none⟩ = some (.string q.op) ∧ W.cell? ⟨w.heap.size + 1, 9, none⟩ = some (.string q.da)) (first | assumption | exact ⟨hx5.1.drew, hx5.2.1, hx5.2.2.1, hx5.2.2.2.1, hx5.2.2.2.2.1, hx5.2.2.2.2.2.1, hx5.2.2.2.2.2.2.1, hx5.2.2.2.2.2.2.2.1, hx5.2.2.2.2.2.2.2.2.1, hx5.2.2.2.2.2.2.2.2.2.1, hx5.2.2.2.2.2.2.2.2.2.2.1, hx5.2.2.2.2.2.2.2.2.2.2.2.1, hx5.2.2.2.2.2.2.2.2.2.2.2.2.1, hx5.2.2.2.2.2.2.2.2.2.2.2.2.2.1, hx5.2.2.2.2.2.2.2.2.2.2.2.2.2.2.1, hx5.2.2.2.2.2.2.2.2.2.2.2.2.2.2.2.1, hx5.2.2.2.2.2.2.2.2.2.2.2.2.2.2.2.2.1, hx5.2.2.2.2.2.2.2.2.2.2.2.2.2.2.2.2.2.1, hx5.2.2.2.2.2.2.2.2.2.2.2.2.2.2.2.2.2.2.1, hx5.2.2.2.2.2.2.2.2.2.2.2.2.2.2.2.2.2.2.2.1, hx5.2.2.2.2.2.2.2.2.2.2.2.2.2.2.2.2.2.2.2.2⟩ | (refine keep20 hb ?_; assumption)) (first | (go_at_call 72; refine (end_any p _ h).mono ?_; rintro e w' ⟨rfl, hb⟩) | (go_at_call 72; refine (kE _).mono ?_; rintro e w' ⟨rfl, hb⟩))
    all_goals
      go_wp2
      go_ret
      rename_i hq
      exact ⟨by first | rfl | (simp <;> omega), hq.1⟩
end Go.Proofs.YthjbmloemmggaaaGreatDoor.Ip

namespace Go.Proofs.YthjbmloemmggaaaGreatDoor.Ip
open Go.RowKit Go.Maps
set_option maxRecDepth 100000
set_option linter.unusedVariables false
set_option linter.unusedSimpArgs false

theorem clash_any (p q : Pk) (w : World) (h : p.Fine) (k : q.Fine) : Calls Tryz.prog 74 #[.agg #[.int .i64 p.f, .int .i64 p.t, .int .i64 p.tl, .int .i64 p.pr, .int .i64 p.id, .int .i64 p.fr, .bool p.mo, .bool p.dn, .string p.op, .string p.da], .agg #[.int .i64 q.f, .int .i64 q.t, .int .i64 q.tl, .int .i64 q.pr, .int .i64 q.id, .int .i64 q.fr, .bool q.mo, .bool q.dn, .string q.op, .string q.da]] w fun e w' => e = .returned (.bool (clashB p q)) ∧ Below w.heap.size w w' := by
  have hA := (At.box w #[.int .i64 p.f, .int .i64 p.t, .int .i64 p.tl, .int .i64 p.pr, .int .i64 p.id, .int .i64 p.fr, .bool p.mo, .bool p.dn, .string p.op, .string p.da] 23).later (bel1 _ (.cells #[.int .i64 q.f, .int .i64 q.t, .int .i64 q.tl, .int .i64 q.pr, .int .i64 q.id, .int .i64 q.fr, .bool q.mo, .bool q.dn, .string q.op, .string q.da] 23))
  have hB := At.box2 w (.cells #[.int .i64 p.f, .int .i64 p.t, .int .i64 p.tl, .int .i64 p.pr, .int .i64 p.id, .int .i64 p.fr, .bool p.mo, .bool p.dn, .string p.op, .string p.da] 23) #[.int .i64 q.f, .int .i64 q.t, .int .i64 q.tl, .int .i64 q.pr, .int .i64 q.id, .int .i64 q.fr, .bool q.mo, .bool q.dn, .string q.op, .string q.da] 23
  have hl := bt (bel1 w (.cells #[.int .i64 p.f, .int .i64 p.t, .int .i64 p.tl, .int .i64 p.pr, .int .i64 p.id, .int .i64 p.fr, .bool p.mo, .bool p.dn, .string p.op, .string p.da] 23)) (bel1 _ (.cells #[.int .i64 q.f, .int .i64 q.t, .int .i64 q.tl, .int .i64 q.pr, .int .i64 q.id, .int .i64 q.fr, .bool q.mo, .bool q.dn, .string q.op, .string q.da] 23))
  unfold clashB
  go_enter Tryz.func74, Tryz.ntmps74
  go_upto_region 1 with fail
  generalize (w.alloc (.cells #[.int .i64 p.f, .int .i64 p.t, .int .i64 p.tl, .int .i64 p.pr, .int .i64 p.id, .int .i64 p.fr, .bool p.mo, .bool p.dn, .string p.op, .string p.da] 23)).alloc (.cells #[.int .i64 q.f, .int .i64 q.t, .int .i64 q.tl, .int .i64 q.pr, .int .i64 q.id, .int .i64 q.fr, .bool q.mo, .bool q.dn, .string q.op, .string q.da] 23) = W0 at *
  obtain ⟨⟨c0, c1, c2, c3, c4, c5, c6, c7, c8, c9⟩, -, -⟩ := hA.ten
  obtain ⟨⟨d0, d1, d2, d3, d4, d5, d6, d7, d8, d9⟩, -, -⟩ := hB.ten
  go_wp2_with fail
  refine (overlap_any p q _ h k).mono ?_
  rintro e w1 ⟨rfl, l1⟩
  clear c0 c1 c2 c3 c4 c5 c6 c7 c8 c9 d0 d1 d2 d3 d4 d5 d6 d7 d8 d9
  replace hA := hA.later l1
  replace hB := hB.later l1
  replace hl := bt hl l1
  obtain ⟨⟨c0, c1, c2, c3, c4, c5, c6, c7, c8, c9⟩, -, -⟩ := hA.ten
  obtain ⟨⟨d0, d1, d2, d3, d4, d5, d6, d7, d8, d9⟩, -, -⟩ := hB.ten
  cases h1 : ovB p q with
  | true =>
    clear hA hB
    go_wp2
    go_ret
    exact ⟨by simp [h1], hl⟩
  | false =>
    go_wp2_with fail
    refine (past_any p q _ h k).mono ?_
    rintro e w2 ⟨rfl, l2⟩
    clear c0 c1 c2 c3 c4 c5 c6 c7 c8 c9 d0 d1 d2 d3 d4 d5 d6 d7 d8 d9
    replace hA := hA.later l2
    replace hB := hB.later l2
    replace hl := bt hl l2
    obtain ⟨⟨c0, c1, c2, c3, c4, c5, c6, c7, c8, c9⟩, -, -⟩ := hA.ten
    obtain ⟨⟨d0, d1, d2, d3, d4, d5, d6, d7, d8, d9⟩, -, -⟩ := hB.ten
    cases h2 : pastB p q with
    | true =>
      clear hA hB
      go_wp2
      go_ret
      exact ⟨by simp [h1, h2], hl⟩
    | false =>
      go_wp2_with fail
      refine (past_any q p _ k h).mono ?_
      rintro e w3 ⟨rfl, l3⟩
      clear c0 c1 c2 c3 c4 c5 c6 c7 c8 c9 d0 d1 d2 d3 d4 d5 d6 d7 d8 d9 hA hB
      go_wp2
      go_ret
      exact ⟨by simp [h1, h2], bt hl l3⟩
def RW (w : World) (R : Nat) (v : Value) (ps : List Pk) : Prop := w.ownsRow R 23 10 v ps.length (flatP ps)
theorem RW.nil (w : World) (R : Nat) : RW w R (.slice none 0 0) [] := World.ownsRow_nil _ _ _ _
theorem RW.ge {w : World} {R : Nat} {v : Value} {ps : List Pk} (h : RW w R v ps) : ∀ j, v.ownBlock = some j → R ≤ j := fun j hj => (World.ownsRow.lt h j hj).1
theorem RW.lt {w : World} {R : Nat} {v : Value} {ps : List Pk} (h : RW w R v ps) : ∀ j, v.ownBlock = some j → j < w.heap.size := fun j hj => (World.ownsRow.lt h j hj).2
theorem RW.turn {S : Nat → Prop} {w w' : World} {R : Nat} {v : Value} {ps : List Pk} (h : RW w R v ps) (ht : Turn S w w') (hS : ∀ k, v.ownBlock = some k → ¬ S k) : RW w' R v ps := by
  obtain ⟨i1, i2⟩ := h
  refine ⟨i1, ?_⟩
  rcases i2 with h | ⟨g, cap, cur, a1, a2, a3, a4⟩
  · exact Or.inl h
  · exact Or.inr ⟨g, cap, cur, a1, a2, (ht.block g (Array.getElem?_eq_some_iff.1 a3).1 (hS g (by rw [a1]; simp [Value.ownBlock]))).trans a3, a4⟩
theorem RW.later {w w' : World} {R : Nat} {v : Value} {ps : List Pk} (h : RW w R v ps) (hb : Below w.heap.size w w') : RW w' R v ps := h.turn (S := fun _ => False) (Turn.of_below hb) (fun _ _ h => h)
theorem RW.shape {w : World} {R : Nat} {v : Value} {ps : List Pk} (h : RW w R v ps) : ∃ a c, v = .slice a ps.length c := by
  rcases h.2 with ⟨rfl, h0⟩ | ⟨g, cap, cur, rfl, -⟩
  · exact ⟨none, 0, by rw [h0]⟩
  · exact ⟨_, _, rfl⟩
theorem RW.real {w : World} {R : Nat} {v : Value} {ps : List Pk} (h : RW w R v ps) (hn : ps ≠ []) : ∃ g c cur, v = .slice (some ⟨g, 0, none⟩) ps.length c ∧ R ≤ g ∧ w.heap[g]? = some (.cells cur 23 (0, 0)) ∧ ps.length ≤ c ∧ c ≤ maxLen ∧ cur.size = c * 10 ∧ cur.toList.take (ps.length * 10) = flatP ps := by
  rcases h.2 with ⟨rfl, h0⟩ | ⟨g, cap, cur, rfl, h1, h2, h3, h4, h5, h6⟩
  · exact absurd (List.length_eq_zero_iff.1 h0) hn
  · exact ⟨g, cap, cur, rfl, h1, h2, h3, h4, h5, h6⟩
theorem row_cell {w : World} {g : Nat} {cur : Array Value} {t : TypeId} {ps : List Pk} (hb : w.heap[g]? = some (.cells cur t (0, 0))) (h4 : cur.toList.take (ps.length * 10) = flatP ps) {i : Nat} {p : Pk} (hp : ps[i]? = some p) : ∀ j u, p.L[j]? = some u → w.cell? ⟨g, i * 10 + j, none⟩ = some u := by
  intro j u hu
  have hj : j < 10 := (List.getElem?_eq_some_iff.1 hu).1
  have hx := flatP_at ps i j p hp hj
  rw [hu, ← h4] at hx
  have hi : i < ps.length := (List.getElem?_eq_some_iff.1 hp).1
  rw [List.getElem?_take_of_lt (by omega)] at hx
  simp [World.cell?, hb]
  simpa using hx
theorem RW.cells {w : World} {R : Nat} {g n c : Nat} {ps : List Pk} (h : RW w R (.slice (some ⟨g, 0, none⟩) n c) ps) {i : Nat} {p : Pk} (hp : ps[i]? = some p) : ∀ j u, p.L[j]? = some u → w.cell? ⟨g, i * 10 + j, none⟩ = some u := by
  obtain ⟨g', c', cur, hv, -, hb, -, -, -, h4⟩ := h.real (fun e => by rw [e] at hp; cases hp)
  injection hv with e1 e2 e3
  injection e1 with e1
  injection e1 with e1
  subst e1
  exact row_cell hb h4 hp
def hasB (p q : Pk) : Bool := decide (q.fr = p.fr) && decide (q.da = p.da) && (q.mo == p.mo)
theorem index_has (p : Pk) (ps : List Pk) (B : Nat) (w : World) (v : Value) (R : Nat) (hr : RW w R v ps) (hn : ps.length ≤ 1000000)
    (hp : ∀ W q, q ∈ ps → Below w.heap.size w W → Calls Tryz.prog 71 #[.agg #[.int .i64 q.f, .int .i64 q.t, .int .i64 q.tl, .int .i64 q.pr, .int .i64 q.id, .int .i64 q.fr, .bool q.mo, .bool q.dn, .string q.op, .string q.da], .pointer (some ⟨B, 0, none⟩)] W fun e w' => e = .returned (.bool (hasB p q)) ∧ Below W.heap.size W w') :
    Calls Tryz.prog 93 #[v, .func (.func 71) #[] #[.pointer (some ⟨B, 0, none⟩)]] w fun e w' => (∃ i : Int, e = .returned (.int .i64 i) ∧ -1 ≤ i ∧ i ≤ 1000000 ∧ (0 ≤ i ↔ ps.any (hasB p) = true)) ∧ Below w.heap.size w w' := by
  obtain ⟨a, c, rfl⟩ := hr.shape
  go_enter Tryz.func93, Tryz.ntmps93
  go_wp2
  go_loopw [8] (fun s W => ∃ j : Nat, j ≤ ps.length ∧ s = .int .i64 (j : Int) ∧ Below w.heap.size w W ∧ ∀ q ∈ ps.take j, hasB p q = false) (fun s _ => ps.length - (intOf s).toNat)
  case atStart => exact ⟨0, Nat.zero_le _, rfl, Below.refl _ _, fun q hq => by simp at hq⟩
  case round =>
    obtain ⟨j, hj, rfl, hb, hq⟩ := hrel
    have HQ : Hid (∀ q ∈ ps.take j, hasB p q = false) := hq
    clear hq
    by_cases hlt : j < ps.length
    · obtain ⟨q, he⟩ : ∃ q, ps[j]? = some q := ⟨_, List.getElem?_eq_getElem hlt⟩
      obtain ⟨g, c', cur, hv, -, hbk, -, -, -, h4⟩ := (hr.later hb).real (fun e => by rw [e] at hlt; cases hlt)
      injection hv with e1 e2 e3
      subst e1 e3
      have hcl := row_cell hbk h4 he
      have hmem : q ∈ ps := List.mem_of_getElem? he
      have hcall := hp wr q hmem hb
      have hlt' : (j : Int) < (ps.length : Int) := by omega
      have r0 := hcl 0 _ rfl
      have r1 := hcl 1 _ rfl
      have r2 := hcl 2 _ rfl
      have r3 := hcl 3 _ rfl
      have r4 := hcl 4 _ rfl
      have r5 := hcl 5 _ rfl
      have r6 := hcl 6 _ rfl
      have r7 := hcl 7 _ rfl
      have r8 := hcl 8 _ rfl
      have r9 := hcl 9 _ rfl
      rw [Nat.add_zero] at r0
      clear hcl hbk h4 hr hp
      have HE : Hid (ps[j]? = some q) := he
      clear he
      cases hc : hasB p q with
      | true =>
        rw [hc] at hcall
        go_wp2_with fail
        refine hcall.mono ?_
        rintro e w1 ⟨rfl, l1⟩
        go_wp2
        go_ret
        exact ⟨⟨(j : Int), rfl, by omega, by omega, by rw [List.any_eq_true]; exact ⟨fun _ => ⟨q, hmem, hc⟩, fun _ => by omega⟩⟩, bt hb l1⟩
      | false =>
        rw [hc] at hcall
        go_wp2_with fail
        refine hcall.mono ?_
        rintro e w1 ⟨rfl, l1⟩
        go_wp2
        go_roundw
        case rel =>
          refine ⟨j + 1, by omega, by simp, bt hb l1, fun y hy => ?_⟩
          rw [List.take_add_one, HE.out] at hy
          rcases List.mem_append.1 hy with h | h
          · exact HQ.out y h
          · simp at h; rw [h]; exact hc
        case measure => simp [intOf]; omega
    · have hje : j = ps.length := by omega
      subst hje
      go_wp2
      go_ret
      refine ⟨⟨-1, rfl, by omega, by omega, ⟨fun h => absurd h (by decide), fun h => ?_⟩⟩, hb⟩
      rw [List.any_eq_true] at h
      obtain ⟨y, hy, hc⟩ := h
      rw [HQ.out y (by rw [List.take_length]; exact hy)] at hc
      cases hc
theorem cont_has (p : Pk) (ps : List Pk) (B : Nat) (w : World) (v : Value) (R : Nat) (hr : RW w R v ps) (hn : ps.length ≤ 1000000)
    (hp : ∀ W q, q ∈ ps → Below w.heap.size w W → Calls Tryz.prog 71 #[.agg #[.int .i64 q.f, .int .i64 q.t, .int .i64 q.tl, .int .i64 q.pr, .int .i64 q.id, .int .i64 q.fr, .bool q.mo, .bool q.dn, .string q.op, .string q.da], .pointer (some ⟨B, 0, none⟩)] W fun e w' => e = .returned (.bool (hasB p q)) ∧ Below W.heap.size W w') :
    Calls Tryz.prog 70 #[v, .func (.func 71) #[] #[.pointer (some ⟨B, 0, none⟩)]] w fun e w' => e = .returned (.bool (ps.any (hasB p))) ∧ Below w.heap.size w w' := by
  have hcon := index_has p ps B w v R hr hn hp
  clear hp
  generalize ps.any (hasB p) = r at hcon ⊢
  go_enter Tryz.func70, Tryz.ntmps70
  go_wp2_with fail
  refine hcon.mono ?_
  rintro e w1 ⟨⟨i, rfl, h1, h2, h3⟩, l1⟩
  go_wp2
  go_ret
  refine ⟨?_, l1⟩
  by_cases h : 0 ≤ i
  · rw [h3.1 h]; simp [h]
  · have : r = false := by
      cases r
      · rfl
      · exact absurd (h3.2 rfl) h
    rw [this]; simp <;> omega
theorem index_fits (p : Pk) (ps : List Pk) (B : Nat) (w : World) (v : Value) (R : Nat) (hr : RW w R v ps) (hn : ps.length ≤ 1000000)
    (hp : ∀ W q, q ∈ ps → Below w.heap.size w W → Calls Tryz.prog 73 #[.agg #[.int .i64 q.f, .int .i64 q.t, .int .i64 q.tl, .int .i64 q.pr, .int .i64 q.id, .int .i64 q.fr, .bool q.mo, .bool q.dn, .string q.op, .string q.da], .pointer (some ⟨B, 0, none⟩)] W fun e w' => e = .returned (.bool (clashB p q)) ∧ Below W.heap.size W w') :
    Calls Tryz.prog 93 #[v, .func (.func 73) #[] #[.pointer (some ⟨B, 0, none⟩)]] w fun e w' => (∃ i : Int, e = .returned (.int .i64 i) ∧ -1 ≤ i ∧ i ≤ 1000000 ∧ (0 ≤ i ↔ ps.any (clashB p) = true)) ∧ Below w.heap.size w w' := by
  obtain ⟨a, c, rfl⟩ := hr.shape
  go_enter Tryz.func93, Tryz.ntmps93
  go_wp2
  go_loopw [8] (fun s W => ∃ j : Nat, j ≤ ps.length ∧ s = .int .i64 (j : Int) ∧ Below w.heap.size w W ∧ ∀ q ∈ ps.take j, clashB p q = false) (fun s _ => ps.length - (intOf s).toNat)
  case atStart => exact ⟨0, Nat.zero_le _, rfl, Below.refl _ _, fun q hq => by simp at hq⟩
  case round =>
    obtain ⟨j, hj, rfl, hb, hq⟩ := hrel
    have HQ : Hid (∀ q ∈ ps.take j, clashB p q = false) := hq
    clear hq
    by_cases hlt : j < ps.length
    · obtain ⟨q, he⟩ : ∃ q, ps[j]? = some q := ⟨_, List.getElem?_eq_getElem hlt⟩
      obtain ⟨g, c', cur, hv, -, hbk, -, -, -, h4⟩ := (hr.later hb).real (fun e => by rw [e] at hlt; cases hlt)
      injection hv with e1 e2 e3
      subst e1 e3
      have hcl := row_cell hbk h4 he
      have hmem : q ∈ ps := List.mem_of_getElem? he
      have hcall := hp wr q hmem hb
      have hlt' : (j : Int) < (ps.length : Int) := by omega
      have r0 := hcl 0 _ rfl
      have r1 := hcl 1 _ rfl
      have r2 := hcl 2 _ rfl
      have r3 := hcl 3 _ rfl
      have r4 := hcl 4 _ rfl
      have r5 := hcl 5 _ rfl
      have r6 := hcl 6 _ rfl
      have r7 := hcl 7 _ rfl
      have r8 := hcl 8 _ rfl
      have r9 := hcl 9 _ rfl
      rw [Nat.add_zero] at r0
      clear hcl hbk h4 hr hp
      have HE : Hid (ps[j]? = some q) := he
      clear he
      cases hc : clashB p q with
      | true =>
        rw [hc] at hcall
        go_wp2_with fail
        refine hcall.mono ?_
        rintro e w1 ⟨rfl, l1⟩
        go_wp2
        go_ret
        exact ⟨⟨(j : Int), rfl, by omega, by omega, by rw [List.any_eq_true]; exact ⟨fun _ => ⟨q, hmem, hc⟩, fun _ => by omega⟩⟩, bt hb l1⟩
      | false =>
        rw [hc] at hcall
        go_wp2_with fail
        refine hcall.mono ?_
        rintro e w1 ⟨rfl, l1⟩
        go_wp2
        go_roundw
        case rel =>
          refine ⟨j + 1, by omega, by simp, bt hb l1, fun y hy => ?_⟩
          rw [List.take_add_one, HE.out] at hy
          rcases List.mem_append.1 hy with h | h
          · exact HQ.out y h
          · simp at h; rw [h]; exact hc
        case measure => simp [intOf]; omega
    · have hje : j = ps.length := by omega
      subst hje
      go_wp2
      go_ret
      refine ⟨⟨-1, rfl, by omega, by omega, ⟨fun h => absurd h (by decide), fun h => ?_⟩⟩, hb⟩
      rw [List.any_eq_true] at h
      obtain ⟨y, hy, hc⟩ := h
      rw [HQ.out y (by rw [List.take_length]; exact hy)] at hc
      cases hc
theorem cont_fits (p : Pk) (ps : List Pk) (B : Nat) (w : World) (v : Value) (R : Nat) (hr : RW w R v ps) (hn : ps.length ≤ 1000000)
    (hp : ∀ W q, q ∈ ps → Below w.heap.size w W → Calls Tryz.prog 73 #[.agg #[.int .i64 q.f, .int .i64 q.t, .int .i64 q.tl, .int .i64 q.pr, .int .i64 q.id, .int .i64 q.fr, .bool q.mo, .bool q.dn, .string q.op, .string q.da], .pointer (some ⟨B, 0, none⟩)] W fun e w' => e = .returned (.bool (clashB p q)) ∧ Below W.heap.size W w') :
    Calls Tryz.prog 70 #[v, .func (.func 73) #[] #[.pointer (some ⟨B, 0, none⟩)]] w fun e w' => e = .returned (.bool (ps.any (clashB p))) ∧ Below w.heap.size w w' := by
  have hcon := index_fits p ps B w v R hr hn hp
  clear hp
  generalize ps.any (clashB p) = r at hcon ⊢
  go_enter Tryz.func70, Tryz.ntmps70
  go_wp2_with fail
  refine hcon.mono ?_
  rintro e w1 ⟨⟨i, rfl, h1, h2, h3⟩, l1⟩
  go_wp2
  go_ret
  refine ⟨?_, l1⟩
  by_cases h : 0 ≤ i
  · rw [h3.1 h]; simp [h]
  · have : r = false := by
      cases r
      · rfl
      · exact absurd (h3.2 rfl) h
    rw [this]; simp <;> omega
end Go.Proofs.YthjbmloemmggaaaGreatDoor.Ip
