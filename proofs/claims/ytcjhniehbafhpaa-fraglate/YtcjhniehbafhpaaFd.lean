/- The contract of clash; rows of packets; ContainsFunc, has and fits. -/
import Derived.Test.YtcjhniehbafhpaaFc
namespace Go.Proofs.Ytcjhniehbafhpaa
open Go.RowKit Go.Maps
set_option maxRecDepth 100000
set_option linter.unusedVariables false
set_option linter.unusedSimpArgs false

theorem clash_any (p q : Pk) (w : World) (h : p.Fine) (k : q.Fine) : Calls Try.prog 52 #[.agg #[.int .i64 p.f, .int .i64 p.t, .int .i64 p.tl, .int .i64 p.pr, .int .i64 p.id, .int .i64 p.fr, .bool p.mo, .bool p.dn, .string p.op, .string p.da], .agg #[.int .i64 q.f, .int .i64 q.t, .int .i64 q.tl, .int .i64 q.pr, .int .i64 q.id, .int .i64 q.fr, .bool q.mo, .bool q.dn, .string q.op, .string q.da]] w fun e w' => e = .returned (.bool (clashB p q)) ∧ Below w.heap.size w w' := by
  have hA := (At.box w #[.int .i64 p.f, .int .i64 p.t, .int .i64 p.tl, .int .i64 p.pr, .int .i64 p.id, .int .i64 p.fr, .bool p.mo, .bool p.dn, .string p.op, .string p.da] 32).later (bel1 _ (.cells #[.int .i64 q.f, .int .i64 q.t, .int .i64 q.tl, .int .i64 q.pr, .int .i64 q.id, .int .i64 q.fr, .bool q.mo, .bool q.dn, .string q.op, .string q.da] 32))
  have hB := At.box2 w (.cells #[.int .i64 p.f, .int .i64 p.t, .int .i64 p.tl, .int .i64 p.pr, .int .i64 p.id, .int .i64 p.fr, .bool p.mo, .bool p.dn, .string p.op, .string p.da] 32) #[.int .i64 q.f, .int .i64 q.t, .int .i64 q.tl, .int .i64 q.pr, .int .i64 q.id, .int .i64 q.fr, .bool q.mo, .bool q.dn, .string q.op, .string q.da] 32
  have hl := bt (bel1 w (.cells #[.int .i64 p.f, .int .i64 p.t, .int .i64 p.tl, .int .i64 p.pr, .int .i64 p.id, .int .i64 p.fr, .bool p.mo, .bool p.dn, .string p.op, .string p.da] 32)) (bel1 _ (.cells #[.int .i64 q.f, .int .i64 q.t, .int .i64 q.tl, .int .i64 q.pr, .int .i64 q.id, .int .i64 q.fr, .bool q.mo, .bool q.dn, .string q.op, .string q.da] 32))
  unfold clashB
  go_enter Try.func52, Try.ntmps52
  go_upto_region 1 with fail
  generalize (w.alloc (.cells #[.int .i64 p.f, .int .i64 p.t, .int .i64 p.tl, .int .i64 p.pr, .int .i64 p.id, .int .i64 p.fr, .bool p.mo, .bool p.dn, .string p.op, .string p.da] 32)).alloc (.cells #[.int .i64 q.f, .int .i64 q.t, .int .i64 q.tl, .int .i64 q.pr, .int .i64 q.id, .int .i64 q.fr, .bool q.mo, .bool q.dn, .string q.op, .string q.da] 32) = W0 at *
  obtain ⟨⟨c0, c1, c2, c3, c4, c5, c6, c7, c8, c9⟩, -, -⟩ := hA.ten
  obtain ⟨⟨d0, d1, d2, d3, d4, d5, d6, d7, d8, d9⟩, -, -⟩ := hB.ten
  go_wp2_with fail
  refine (overlap_any p q _ h k).mono ?_
  rintro e w1 ⟨rfl, l1⟩
  clear c0 c1 c2 c3 c4 c5 c6 c7 c8 c9 d0 d1 d2 d3 d4 d5 d6 d7 d8 d9
  replace hA := hA.later l1
  replace hB := hB.later l1
  replace hl := bt hl l1
  obtain ⟨⟨c0, c1, c2, c3, c4, c5, c6, c7, c8, c9⟩, -, -⟩ := hA.ten
  obtain ⟨⟨d0, d1, d2, d3, d4, d5, d6, d7, d8, d9⟩, -, -⟩ := hB.ten
  cases h1 : ovB p q with
  | true =>
    clear hA hB
    go_wp2
    go_ret
    exact ⟨by simp [h1], hl⟩
  | false =>
    go_wp2_with fail
    refine (past_any p q _ h k).mono ?_
    rintro e w2 ⟨rfl, l2⟩
    clear c0 c1 c2 c3 c4 c5 c6 c7 c8 c9 d0 d1 d2 d3 d4 d5 d6 d7 d8 d9
    replace hA := hA.later l2
    replace hB := hB.later l2
    replace hl := bt hl l2
    obtain ⟨⟨c0, c1, c2, c3, c4, c5, c6, c7, c8, c9⟩, -, -⟩ := hA.ten
    obtain ⟨⟨d0, d1, d2, d3, d4, d5, d6, d7, d8, d9⟩, -, -⟩ := hB.ten
    cases h2 : pastB p q with
    | true =>
      clear hA hB
      go_wp2
      go_ret
      exact ⟨by simp [h1, h2], hl⟩
    | false =>
      go_wp2_with fail
      refine (past_any q p _ k h).mono ?_
      rintro e w3 ⟨rfl, l3⟩
      clear c0 c1 c2 c3 c4 c5 c6 c7 c8 c9 d0 d1 d2 d3 d4 d5 d6 d7 d8 d9 hA hB
      go_wp2
      go_ret
      exact ⟨by simp [h1, h2], bt hl l3⟩
/-- A row of packets of its own, from R on. -/
def RW (w : World) (R : Nat) (v : Value) (ps : List Pk) : Prop := w.ownsRow R 32 10 v ps.length (flatP ps)
theorem RW.nil (w : World) (R : Nat) : RW w R (.slice none 0 0) [] := World.ownsRow_nil _ _ _ _
theorem RW.ge {w : World} {R : Nat} {v : Value} {ps : List Pk} (h : RW w R v ps) : ∀ j, v.ownBlock = some j → R ≤ j := fun j hj => (World.ownsRow.lt h j hj).1
theorem RW.lt {w : World} {R : Nat} {v : Value} {ps : List Pk} (h : RW w R v ps) : ∀ j, v.ownBlock = some j → j < w.heap.size := fun j hj => (World.ownsRow.lt h j hj).2
theorem RW.turn {S : Nat → Prop} {w w' : World} {R : Nat} {v : Value} {ps : List Pk} (h : RW w R v ps) (ht : Turn S w w') (hS : ∀ k, v.ownBlock = some k → ¬ S k) : RW w' R v ps := by
  obtain ⟨i1, i2⟩ := h
  refine ⟨i1, ?_⟩
  rcases i2 with h | ⟨g, cap, cur, a1, a2, a3, a4⟩
  · exact Or.inl h
  · exact Or.inr ⟨g, cap, cur, a1, a2, (ht.block g (Array.getElem?_eq_some_iff.1 a3).1 (hS g (by rw [a1]; simp [Value.ownBlock]))).trans a3, a4⟩
theorem RW.later {w w' : World} {R : Nat} {v : Value} {ps : List Pk} (h : RW w R v ps) (hb : Below w.heap.size w w') : RW w' R v ps := h.turn (S := fun _ => False) (Turn.of_below hb) (fun _ _ h => h)
theorem RW.low {w : World} {R R' : Nat} {v : Value} {ps : List Pk} (h : RW w R v ps) (hb : R' ≤ R) : RW w R' v ps := own_mono h hb
theorem RW.shape {w : World} {R : Nat} {v : Value} {ps : List Pk} (h : RW w R v ps) : ∃ a c, v = .slice a ps.length c := by
  rcases h.2 with ⟨rfl, h0⟩ | ⟨g, cap, cur, rfl, -⟩
  · exact ⟨none, 0, by rw [h0]⟩
  · exact ⟨_, _, rfl⟩
theorem RW.real {w : World} {R : Nat} {v : Value} {ps : List Pk} (h : RW w R v ps) (hn : ps ≠ []) : ∃ g c cur, v = .slice (some ⟨g, 0, none⟩) ps.length c ∧ R ≤ g ∧ w.heap[g]? = some (.cells cur 32 (0, 0)) ∧ ps.length ≤ c ∧ c ≤ maxLen ∧ cur.size = c * 10 ∧ cur.toList.take (ps.length * 10) = flatP ps := by
  rcases h.2 with ⟨rfl, h0⟩ | ⟨g, cap, cur, rfl, h1, h2, h3, h4, h5, h6⟩
  · exact absurd (List.length_eq_zero_iff.1 h0) hn
  · exact ⟨g, cap, cur, rfl, h1, h2, h3, h4, h5, h6⟩
theorem row_cell {w : World} {g : Nat} {cur : Array Value} {t : TypeId} {ps : List Pk} (hb : w.heap[g]? = some (.cells cur t (0, 0))) (h4 : cur.toList.take (ps.length * 10) = flatP ps) {i : Nat} {p : Pk} (hp : ps[i]? = some p) : ∀ j u, p.L[j]? = some u → w.cell? ⟨g, i * 10 + j, none⟩ = some u := by
  intro j u hu
  have hj : j < 10 := (List.getElem?_eq_some_iff.1 hu).1
  have hx := flatP_at ps i j p hp hj
  rw [hu, ← h4] at hx
  have hi : i < ps.length := (List.getElem?_eq_some_iff.1 hp).1
  rw [List.getElem?_take_of_lt (by omega)] at hx
  simp [World.cell?, hb]
  simpa using hx
/-- The ten cells of an element. -/
theorem RW.cells {w : World} {R : Nat} {g n c : Nat} {ps : List Pk} (h : RW w R (.slice (some ⟨g, 0, none⟩) n c) ps) {i : Nat} {p : Pk} (hp : ps[i]? = some p) : ∀ j u, p.L[j]? = some u → w.cell? ⟨g, i * 10 + j, none⟩ = some u := by
  obtain ⟨g', c', cur, hv, -, hb, -, -, -, h4⟩ := h.real (fun e => by rw [e] at hp; cases hp)
  injection hv with e1 e2 e3
  injection e1 with e1
  injection e1 with e1
  subst e1
  exact row_cell hb h4 hp
def hasB (p q : Pk) : Bool := decide (q.fr = p.fr) && decide (q.da = p.da) && (q.mo == p.mo)
theorem index_has (p : Pk) (ps : List Pk) (B : Nat) (w : World) (v : Value) (R : Nat) (hr : RW w R v ps) (hn : ps.length ≤ 1000000)
    (hp : ∀ W q, q ∈ ps → Below w.heap.size w W → Calls Try.prog 49 #[.agg #[.int .i64 q.f, .int .i64 q.t, .int .i64 q.tl, .int .i64 q.pr, .int .i64 q.id, .int .i64 q.fr, .bool q.mo, .bool q.dn, .string q.op, .string q.da], .pointer (some ⟨B, 0, none⟩)] W fun e w' => e = .returned (.bool (hasB p q)) ∧ Below W.heap.size W w') :
    Calls Try.prog 69 #[v, .func (.func 49) #[] #[.pointer (some ⟨B, 0, none⟩)]] w fun e w' => (∃ i : Int, e = .returned (.int .i64 i) ∧ -1 ≤ i ∧ i ≤ 1000000 ∧ (0 ≤ i ↔ ps.any (hasB p) = true)) ∧ Below w.heap.size w w' := by
  obtain ⟨a, c, rfl⟩ := hr.shape
  go_enter Try.func69, Try.ntmps69
  go_wp2
  go_loopw [8] (fun s W => ∃ j : Nat, j ≤ ps.length ∧ s = .int .i64 (j : Int) ∧ Below w.heap.size w W ∧ ∀ q ∈ ps.take j, hasB p q = false) (fun s _ => ps.length - (intOf s).toNat)
  case atStart => exact ⟨0, Nat.zero_le _, rfl, Below.refl _ _, fun q hq => by simp at hq⟩
  case round =>
    obtain ⟨j, hj, rfl, hb, hq⟩ := hrel
    have HQ : Hid (∀ q ∈ ps.take j, hasB p q = false) := hq
    clear hq
    by_cases hlt : j < ps.length
    · obtain ⟨q, he⟩ : ∃ q, ps[j]? = some q := ⟨_, List.getElem?_eq_getElem hlt⟩
      obtain ⟨g, c', cur, hv, -, hbk, -, -, -, h4⟩ := (hr.later hb).real (fun e => by rw [e] at hlt; cases hlt)
      injection hv with e1 e2 e3
      subst e1 e3
      have hcl := row_cell hbk h4 he
      have hmem : q ∈ ps := List.mem_of_getElem? he
      have hcall := hp wr q hmem hb
      have hlt' : (j : Int) < (ps.length : Int) := by omega
      have r0 := hcl 0 _ rfl
      have r1 := hcl 1 _ rfl
      have r2 := hcl 2 _ rfl
      have r3 := hcl 3 _ rfl
      have r4 := hcl 4 _ rfl
      have r5 := hcl 5 _ rfl
      have r6 := hcl 6 _ rfl
      have r7 := hcl 7 _ rfl
      have r8 := hcl 8 _ rfl
      have r9 := hcl 9 _ rfl
      rw [Nat.add_zero] at r0
      clear hcl hbk h4 hr hp
      have HE : Hid (ps[j]? = some q) := he
      clear he
      cases hc : hasB p q with
      | true =>
        rw [hc] at hcall
        go_wp2_with fail
        refine hcall.mono ?_
        rintro e w1 ⟨rfl, l1⟩
        go_wp2
        go_ret
        exact ⟨⟨(j : Int), rfl, by omega, by omega, by rw [List.any_eq_true]; exact ⟨fun _ => ⟨q, hmem, hc⟩, fun _ => by omega⟩⟩, bt hb l1⟩
      | false =>
        rw [hc] at hcall
        go_wp2_with fail
        refine hcall.mono ?_
        rintro e w1 ⟨rfl, l1⟩
        go_wp2
        go_roundw
        case rel =>
          refine ⟨j + 1, by omega, by simp, bt hb l1, fun y hy => ?_⟩
          rw [List.take_add_one, HE.out] at hy
          rcases List.mem_append.1 hy with h | h
          · exact HQ.out y h
          · simp at h; rw [h]; exact hc
        case measure => simp [intOf]; omega
    · have hje : j = ps.length := by omega
      subst hje
      go_wp2
      go_ret
      refine ⟨⟨-1, rfl, by omega, by omega, ⟨fun h => absurd h (by decide), fun h => ?_⟩⟩, hb⟩
      rw [List.any_eq_true] at h
      obtain ⟨y, hy, hc⟩ := h
      rw [HQ.out y (by rw [List.take_length]; exact hy)] at hc
      cases hc
theorem cont_has (p : Pk) (ps : List Pk) (B : Nat) (w : World) (v : Value) (R : Nat) (hr : RW w R v ps) (hn : ps.length ≤ 1000000)
    (hp : ∀ W q, q ∈ ps → Below w.heap.size w W → Calls Try.prog 49 #[.agg #[.int .i64 q.f, .int .i64 q.t, .int .i64 q.tl, .int .i64 q.pr, .int .i64 q.id, .int .i64 q.fr, .bool q.mo, .bool q.dn, .string q.op, .string q.da], .pointer (some ⟨B, 0, none⟩)] W fun e w' => e = .returned (.bool (hasB p q)) ∧ Below W.heap.size W w') :
    Calls Try.prog 48 #[v, .func (.func 49) #[] #[.pointer (some ⟨B, 0, none⟩)]] w fun e w' => e = .returned (.bool (ps.any (hasB p))) ∧ Below w.heap.size w w' := by
  have hcon := index_has p ps B w v R hr hn hp
  clear hp
  generalize ps.any (hasB p) = r at hcon ⊢
  go_enter Try.func48, Try.ntmps48
  go_wp2_with fail
  refine hcon.mono ?_
  rintro e w1 ⟨⟨i, rfl, h1, h2, h3⟩, l1⟩
  go_wp2
  go_ret
  refine ⟨?_, l1⟩
  by_cases h : 0 ≤ i
  · rw [h3.1 h]; simp [h]
  · have : r = false := by
      cases r
      · rfl
      · exact absurd (h3.2 rfl) h
    rw [this]; simp <;> omega
theorem index_fits (p : Pk) (ps : List Pk) (B : Nat) (w : World) (v : Value) (R : Nat) (hr : RW w R v ps) (hn : ps.length ≤ 1000000)
    (hp : ∀ W q, q ∈ ps → Below w.heap.size w W → Calls Try.prog 51 #[.agg #[.int .i64 q.f, .int .i64 q.t, .int .i64 q.tl, .int .i64 q.pr, .int .i64 q.id, .int .i64 q.fr, .bool q.mo, .bool q.dn, .string q.op, .string q.da], .pointer (some ⟨B, 0, none⟩)] W fun e w' => e = .returned (.bool (clashB p q)) ∧ Below W.heap.size W w') :
    Calls Try.prog 69 #[v, .func (.func 51) #[] #[.pointer (some ⟨B, 0, none⟩)]] w fun e w' => (∃ i : Int, e = .returned (.int .i64 i) ∧ -1 ≤ i ∧ i ≤ 1000000 ∧ (0 ≤ i ↔ ps.any (clashB p) = true)) ∧ Below w.heap.size w w' := by
  obtain ⟨a, c, rfl⟩ := hr.shape
  go_enter Try.func69, Try.ntmps69
  go_wp2
  go_loopw [8] (fun s W => ∃ j : Nat, j ≤ ps.length ∧ s = .int .i64 (j : Int) ∧ Below w.heap.size w W ∧ ∀ q ∈ ps.take j, clashB p q = false) (fun s _ => ps.length - (intOf s).toNat)
  case atStart => exact ⟨0, Nat.zero_le _, rfl, Below.refl _ _, fun q hq => by simp at hq⟩
  case round =>
    obtain ⟨j, hj, rfl, hb, hq⟩ := hrel
    have HQ : Hid (∀ q ∈ ps.take j, clashB p q = false) := hq
    clear hq
    by_cases hlt : j < ps.length
    · obtain ⟨q, he⟩ : ∃ q, ps[j]? = some q := ⟨_, List.getElem?_eq_getElem hlt⟩
      obtain ⟨g, c', cur, hv, -, hbk, -, -, -, h4⟩ := (hr.later hb).real (fun e => by rw [e] at hlt; cases hlt)
      injection hv with e1 e2 e3
      subst e1 e3
      have hcl := row_cell hbk h4 he
      have hmem : q ∈ ps := List.mem_of_getElem? he
      have hcall := hp wr q hmem hb
      have hlt' : (j : Int) < (ps.length : Int) := by omega
      have r0 := hcl 0 _ rfl
      have r1 := hcl 1 _ rfl
      have r2 := hcl 2 _ rfl
      have r3 := hcl 3 _ rfl
      have r4 := hcl 4 _ rfl
      have r5 := hcl 5 _ rfl
      have r6 := hcl 6 _ rfl
      have r7 := hcl 7 _ rfl
      have r8 := hcl 8 _ rfl
      have r9 := hcl 9 _ rfl
      rw [Nat.add_zero] at r0
      clear hcl hbk h4 hr hp
      have HE : Hid (ps[j]? = some q) := he
      clear he
      cases hc : clashB p q with
      | true =>
        rw [hc] at hcall
        go_wp2_with fail
        refine hcall.mono ?_
        rintro e w1 ⟨rfl, l1⟩
        go_wp2
        go_ret
        exact ⟨⟨(j : Int), rfl, by omega, by omega, by rw [List.any_eq_true]; exact ⟨fun _ => ⟨q, hmem, hc⟩, fun _ => by omega⟩⟩, bt hb l1⟩
      | false =>
        rw [hc] at hcall
        go_wp2_with fail
        refine hcall.mono ?_
        rintro e w1 ⟨rfl, l1⟩
        go_wp2
        go_roundw
        case rel =>
          refine ⟨j + 1, by omega, by simp, bt hb l1, fun y hy => ?_⟩
          rw [List.take_add_one, HE.out] at hy
          rcases List.mem_append.1 hy with h | h
          · exact HQ.out y h
          · simp at h; rw [h]; exact hc
        case measure => simp [intOf]; omega
    · have hje : j = ps.length := by omega
      subst hje
      go_wp2
      go_ret
      refine ⟨⟨-1, rfl, by omega, by omega, ⟨fun h => absurd h (by decide), fun h => ?_⟩⟩, hb⟩
      rw [List.any_eq_true] at h
      obtain ⟨y, hy, hc⟩ := h
      rw [HQ.out y (by rw [List.take_length]; exact hy)] at hc
      cases hc
theorem cont_fits (p : Pk) (ps : List Pk) (B : Nat) (w : World) (v : Value) (R : Nat) (hr : RW w R v ps) (hn : ps.length ≤ 1000000)
    (hp : ∀ W q, q ∈ ps → Below w.heap.size w W → Calls Try.prog 51 #[.agg #[.int .i64 q.f, .int .i64 q.t, .int .i64 q.tl, .int .i64 q.pr, .int .i64 q.id, .int .i64 q.fr, .bool q.mo, .bool q.dn, .string q.op, .string q.da], .pointer (some ⟨B, 0, none⟩)] W fun e w' => e = .returned (.bool (clashB p q)) ∧ Below W.heap.size W w') :
    Calls Try.prog 48 #[v, .func (.func 51) #[] #[.pointer (some ⟨B, 0, none⟩)]] w fun e w' => e = .returned (.bool (ps.any (clashB p))) ∧ Below w.heap.size w w' := by
  have hcon := index_fits p ps B w v R hr hn hp
  clear hp
  generalize ps.any (clashB p) = r at hcon ⊢
  go_enter Try.func48, Try.ntmps48
  go_wp2_with fail
  refine hcon.mono ?_
  rintro e w1 ⟨⟨i, rfl, h1, h2, h3⟩, l1⟩
  go_wp2
  go_ret
  refine ⟨?_, l1⟩
  by_cases h : 0 ≤ i
  · rw [h3.1 h]; simp [h]
  · have : r = false := by
      cases r
      · rfl
      · exact absurd (h3.2 rfl) h
    rw [this]; simp <;> omega
end Go.Proofs.Ytcjhniehbafhpaa
