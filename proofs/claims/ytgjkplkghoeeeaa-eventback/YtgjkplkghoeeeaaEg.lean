/- Appends and where they lie; a log; its New, Len, Now, Get, on both sides. -/
import Derived.Test.YtgjkplkghoeeeaaEe
import Derived.Maps.AppendAt
import Derived.Laws.AppendOwnNone
namespace Go.Proofs.Ytgjkplkghoeeeaa
open Go.RowKit Go.Maps
set_option maxRecDepth 100000
set_option linter.unusedVariables false
set_option linter.unusedSimpArgs false

theorem step_append_str {w w' : World} {ops : Array Oper} {o : Oper} {a : Act} {K : Act → World → Prop} {Q : Exit → Act → World → Prop} {E : Prop} {v vs v' : Value} {t u : TypeId} (hgd : o.guard = none) (s x : Operand) (ho : o.op = .call { callee := .builtin .append, args := #[s, x], argTypes := #[t, u] })
    (hs : a.eval s = v) (hx : a.eval x = vs) (hr : (Builtin.append_ #[t, u] o.type #[v, vs]).run Try.prog w = .ok v' w') (h : K (a.put o.dst v') w') : if Region.wanted o (yielded ops a.tmps) = true then Oper.wp Try.prog o a w K Q else E := by
  have hw : Region.wanted o (yielded ops a.tmps) = true := by simp [Region.wanted, hgd]
  rw [if_pos hw]
  unfold Oper.wp execOp
  simp only [ho, resolve, invoke, builtin, Sem.run_bind, Sem.run_pure, Result.andThen_ok, List.map_toArray, List.map_cons, List.map_nil, hs, hx, hr]
  exact h

theorem belU {w w' : World} (h : Below w.drew.heap.size w.drew w') : Below w.heap.size w w' := ⟨h.os, h.tape, h.output, h.size, h.block⟩
theorem EO.lt {w : World} {base : Nat} {v : Value} {l : List Ev} (h : EO w base v l) {k : Nat} (hk : v.ownBlock = some k) : k < w.heap.size := by
  rcases h.2 with ⟨rfl, -⟩ | ⟨g, cap, cur, rfl, hg, hb, -⟩
  · cases hk
  · cases hk; exact (Array.getElem?_eq_some_iff.1 hb).1
theorem EO.rise {w : World} {base : Nat} {v : Value} {l : List Ev} (h : EO w 0 v l) (hb : ∀ k, v.ownBlock = some k → base ≤ k) : EO w base v l := by
  refine ⟨h.1, h.2.imp id ?_⟩
  rintro ⟨g, cap, cur, rfl, -, r⟩
  exact ⟨g, cap, cur, rfl, hb g rfl, r⟩
theorem EO.shape2 {w : World} {base : Nat} {v : Value} {l : List Ev} (h : EO w base v l) : ∃ a c, v = .slice a l.length c ∧ (a = none → l = [] ∧ c = 0) ∧ (∀ ad, a = some ad → ∃ g, ad = ⟨g, 0, none⟩ ∧ g < w.heap.size) := by
  rcases h.2 with ⟨rfl, h0⟩ | ⟨g, cap, cur, rfl, hg, hb, -⟩
  · rw [h0]; exact ⟨none, 0, rfl, fun _ => ⟨List.length_eq_zero_iff.1 h0, rfl⟩, fun ad e => by cases e⟩
  · exact ⟨_, _, rfl, fun e => (by cases e), fun ad e => ⟨g, by cases e; rfl, (Array.getElem?_eq_some_iff.1 hb).1⟩⟩
theorem EO.made (w : World) : EO (w.alloc (.cells #[] 23)) w.heap.size (.slice (some ⟨w.heap.size, 0, none⟩) 0 0) [] := by
  refine ⟨rfl, Or.inr ⟨w.heap.size, 0, #[], rfl, Nat.le_refl _, ?_, Nat.le_refl _, by decide, rfl, rfl⟩⟩
  show (w.heap.push (Obj.cells #[] 23))[w.heap.size]? = some _
  exact Array.getElem?_push_size
theorem ev_one (l : List Ev) : ∀ u ∈ l.flatMap evC, u.oneCell' = true := by
  intro u hu
  obtain ⟨x, -, hx⟩ := List.mem_flatMap.1 hu
  simp only [evC, List.mem_cons, List.not_mem_nil, or_false] at hx
  rcases hx with rfl | rfl | rfl <;> rfl
/-- append of one that was boxed, and where it lies. -/
theorem EO.push {w : World} {base g c : Nat} {v : Value} {l : List Ev} {k t : Int} {d : ByteArray} (h : EO w base v l) (hx : At w g #[.int .i64 k, .int .i64 t, .string d]) (hb : base ≤ w.heap.size) (hl : l.length < 1000000) (ty : TypeId) :
    ∃ v' w', (Builtin.append_ #[29, 29] ty #[v, .slice (some ⟨g, 0, none⟩) 1 c]).run Try.prog w = .ok v' w' ∧ EO w' base v' (l ++ [⟨k, t, d⟩]) ∧ Turn (fun j => v.ownBlock = some j) w w' ∧ (v'.ownBlock = v.ownBlock ∨ v'.ownBlock = some w.heap.size) := by
  obtain ⟨i0, hi, hz0, hz1, hz2⟩ := info_parts infoE
  obtain ⟨v', w', e1, e2, e3, -, e5⟩ := run_append_own_at (P := Try.prog) w base 29 ty 23 i0 _ 3 32 Try.underlying29 hi hz0 hz1 hz2 rfl (by decide) v l.length _ h ⟨g, 0, none⟩ 1 c (evC ⟨k, t, d⟩) rfl (fun j u hu => by
    rw [Addr.add_lit, Nat.zero_add]
    exact (hx.2 j u (by simpa [evC] using hu)).1) (fun u hu => ev_one [⟨k, t, d⟩] u (by simpa using hu)) (by unfold maxLen; omega) (by omega) hb
  refine ⟨v', w', e1, ?_, Turn.of_grown e3 (fun j hj => Or.inl hj), e5⟩
  unfold EO
  rw [List.length_append, List.flatMap_append]
  simpa using e2
/-- append of a row to another one, and where it lies. -/
theorem EO.apps {w : World} {base b2 : Nat} {v y : Value} {l m : List Ev} (h : EO w base v l) (hy : EO w b2 y m) (hb : base ≤ w.heap.size) (hl : l.length + m.length ≤ 1000000) (ty : TypeId) :
    ∃ v' w', (Builtin.append_ #[29, 29] ty #[v, y]).run Try.prog w = .ok v' w' ∧ EO w' base v' (l ++ m) ∧ Turn (fun j => v.ownBlock = some j) w w' ∧ (v'.ownBlock = v.ownBlock ∨ v'.ownBlock = some w.heap.size) := by
  obtain ⟨i0, hi, hz0, hz1, hz2⟩ := info_parts infoE
  obtain ⟨a, c, rfl, ha, hg⟩ := hy.shape2
  cases a with
  | none =>
    obtain ⟨rfl, rfl⟩ := ha rfl
    refine ⟨v, w, ?_, by rw [List.append_nil]; exact h, Turn.refl w, Or.inl rfl⟩
    exact run_append_owned_none (P := Try.prog) w base 29 ty 23 i0 3 Try.underlying29 hi v l.length _ h
  | some ad =>
    obtain ⟨g, rfl, hgl⟩ := hg ad rfl
    obtain ⟨v', w', e1, e2, e3, -, e5⟩ := run_append_own_at (P := Try.prog) w base 29 ty 23 i0 _ 3 32 Try.underlying29 hi hz0 hz1 hz2 rfl (by decide) v l.length _ h ⟨g, 0, none⟩ m.length c (m.flatMap evC) (flat_len m) (World.ownsRow.cells hy (g := g) rfl) (ev_one m) (by unfold maxLen; omega) (by omega) hb
    refine ⟨v', w', e1, ?_, Turn.of_grown e3 (fun j hj => Or.inl hj), e5⟩
    unfold EO
    rw [List.length_append, List.flatMap_append]
    exact e2
/-- A log: its box, and the row of its events, which lies above the box. -/
structure LG (w : World) (b : Nat) (v : Value) (l : List Ev) : Prop where
  at_ : At w b #[v]
  eo : EO w (b + 1) v l
theorem LG.later {w w' : World} {b : Nat} {v : Value} {l : List Ev} (h : LG w b v l) (hb : Below w.heap.size w w') : LG w' b v l := ⟨h.at_.later hb, h.eo.later hb⟩
theorem LG.turn {S : Nat → Prop} {w w' : World} {b : Nat} {v : Value} {l : List Ev} (h : LG w b v l) (ht : Turn S w w') (hb : ¬ S b) (hv : ∀ k, v.ownBlock = some k → ¬ S k) : LG w' b v l := ⟨h.at_.turn ht hb, h.eo.turn ht hv⟩
theorem At.one {W : World} {b : Nat} {v : Value} (h : At W b #[v]) : W.cell? ⟨b, 0, none⟩ = some v ∧ W.frozen? ⟨b, 0, none⟩ = false := ⟨(h.2 0 _ rfl).1, (h.2 0 _ rfl).2⟩
theorem LG.fresh (w : World) (T : TypeId) : LG (w.alloc (.cells #[.slice none 0 0] T)) w.heap.size (.slice none 0 0) [] := ⟨At.box w _ T, EO.nil _ _⟩
theorem new_any (w : World) : Calls Try.prog 16 #[] w fun e w' => ∃ b, e = .returned (.pointer (some ⟨b, 0, none⟩)) ∧ w.heap.size ≤ b ∧ LG w' b (.slice none 0 0) [] ∧ Below w.heap.size w w' := by
  go_enter Try.func16, Try.ntmps16
  go_wp2
  go_ret
  exact ⟨_, rfl, Nat.le_refl _, LG.fresh w _, bel1 w _⟩
theorem len_any {w : World} {b : Nat} {v : Value} {l : List Ev} (h : LG w b v l) :
    Calls Try.prog 19 #[.pointer (some ⟨b, 0, none⟩)] w fun e w' => e = .returned (.int .i64 (l.length : Int)) ∧ w' = w := by
  obtain ⟨a, c, rfl⟩ := h.eo.shape
  obtain ⟨c0, -⟩ := h.at_.one
  go_enter Try.func19, Try.ntmps19
  go_wp2
  go_ret
  exact ⟨rfl, rfl⟩
theorem nowE_at {l : List Ev} {x : Ev} {n : Nat} (h : l.length = n + 1) (hx : l[n]? = some x) : nowE l = x.t := by
  unfold nowE
  rw [List.getLast?_eq_getElem?, h, Nat.add_sub_cancel, hx]
theorem len_cell {w : World} {b n : Nat} {a : Option Addr} {c : Nat} (h : w.cell? ⟨b, 0, none⟩ = some (.slice a n c)) :
    Calls Try.prog 19 #[.pointer (some ⟨b, 0, none⟩)] w fun e w' => e = .returned (.int .i64 (n : Int)) ∧ w' = w := by
  go_enter Try.func19, Try.ntmps19
  go_wp2
  go_ret
  exact ⟨rfl, rfl⟩
set_option maxHeartbeats 1000000 in
theorem now_any {w : World} {b : Nat} {v : Value} {l : List Ev} (h : LG w b v l) (hl : l.length ≤ 1000000) :
    Calls Try.prog 20 #[.pointer (some ⟨b, 0, none⟩)] w fun e w' => e = .returned (.int .i64 (nowE l)) ∧ Below w.heap.size w w' := by
  obtain ⟨a, c, rfl⟩ := h.eo.shape
  obtain ⟨c0, -⟩ := h.at_.one
  by_cases h0 : l.length = 0
  · obtain rfl := List.length_eq_zero_iff.1 h0
    go_enter Try.func20, Try.ntmps20
    go_wp2_with fail
    refine (len_cell c0).mono ?_
    rintro e1 w1 ⟨rfl, rfl⟩
    go_wp2
    go_ret
    exact ⟨rfl, Below.refl _ _⟩
  · obtain ⟨n, hn⟩ : ∃ n, l.length = n + 1 := ⟨l.length - 1, by omega⟩
    obtain ⟨x, hx⟩ : ∃ x, l[n]? = some x := ⟨_, List.getElem?_eq_getElem (by omega)⟩
    obtain ⟨g, cap, hv, -, hr⟩ := h.eo.cells hx
    cases hv
    have t0 : (((n + 1 : Nat) : Int) == 0) = false := by simp; omega
    have c1 : w.cell? ⟨g, n * 3 + 1, none⟩ = some (.int .i64 x.t) := hr 1 _ rfl
    have e : nowE l = x.t := nowE_at hn hx
    rw [e]
    rw [hn] at c0
    generalize x.t = T at *
    have kw : IntKind.i64.wrap (n : Int) = n := by rw [IntKind.wrap_i64]; omega
    clear e hr hx h
    go_enter Try.func20, Try.ntmps20
    go_wp2_with fail
    refine (len_cell c0).mono ?_
    rintro e1 w1 ⟨rfl, rfl⟩
    go_wp2
    refine wp_region_held_drew (S := (fun W => Below w1.drew.heap.size w1.drew W ∧ W.cell? ⟨b, 0, none⟩ = some (.slice (some ⟨g, 0, none⟩) (n + 1) c) ∧ W.cell? ⟨g, n * 3 + 1, none⟩ = some (.int .i64 T))) (by kernel_rfl) ?_ (fun hHeld => ?_)
    · first | exact ⟨Below.refl _ _, c0, c1⟩ | assumption
    refine wpAnyH_take (i := 0) (oi := ({ dst := some 6, op := Go.Op.move (Go.Operand.tmp 0), type := 37, pos := "log.go:47", after := #[], guard := none } : Go.Oper)) (v := .pointer (some ⟨b, 0, none⟩)) rfl (by kernel_rfl) (by kernel_rfl) (by kernel_rfl) (fun _ _ _ h => h) (Or.inl ⟨by rfl, ?_⟩) (by assumption) ?_
    · intro wx hSw
      try dsimp only at hSw
      obtain ⟨-, u0, u1⟩ := hSw
      go_simp
      try with_reducible rfl
      try (intro hq; exact absurd hq (by omega))
    try simp only [Act.put, List.setIfInBounds_toArray, List.set_cons_zero, List.set_cons_succ]
    refine wpAnyH_take (i := 1) (oi := ({ dst := some 7, op := Go.Op.nilCheck (Go.Operand.tmp 6), type := 0, pos := "log.go:47", after := #[{ on := 0, ground := Go.Ground.data }], guard := none } : Go.Oper)) (v := .pointer (some ⟨b, 0, none⟩)) rfl (by kernel_rfl) (by kernel_rfl) (by kernel_rfl) (fun _ _ _ h => h) (Or.inl ⟨by rfl, ?_⟩) (by assumption) ?_
    · intro wx hSw
      try dsimp only at hSw
      obtain ⟨-, u0, u1⟩ := hSw
      go_simp
      try with_reducible rfl
      try (intro hq; exact absurd hq (by omega))
    try simp only [Act.put, List.setIfInBounds_toArray, List.set_cons_zero, List.set_cons_succ]
    refine wpAnyH_take (i := 2) (oi := ({ dst := some 8, op := Go.Op.fieldAddr 57 (Go.Operand.tmp 7) 0, type := 0, pos := "log.go:47", after := #[{ on := 1, ground := Go.Ground.data }], guard := none } : Go.Oper)) (v := .pointer (some ⟨b, 0, none⟩)) rfl (by kernel_rfl) (by kernel_rfl) (by kernel_rfl) (fun _ _ _ h => h) (Or.inl ⟨by rfl, ?_⟩) (by assumption) ?_
    · intro wx hSw
      try dsimp only at hSw
      obtain ⟨-, u0, u1⟩ := hSw
      go_simp
      try with_reducible rfl
      try (intro hq; exact absurd hq (by omega))
    try simp only [Act.put, List.setIfInBounds_toArray, List.set_cons_zero, List.set_cons_succ]
    refine wpAnyH_take (i := 3) (oi := ({ dst := some 9, op := Go.Op.load 29 (Go.Operand.tmp 8), type := 29, pos := "log.go:47", after := #[{ on := 2, ground := Go.Ground.data }], guard := none } : Go.Oper)) (v := .slice (some ⟨g, 0, none⟩) (n + 1) c) rfl (by kernel_rfl) (by kernel_rfl) (by kernel_rfl) (fun _ _ _ h => h) (Or.inl ⟨by rfl, ?_⟩) (by assumption) ?_
    · intro wx hSw
      try dsimp only at hSw
      obtain ⟨-, u0, u1⟩ := hSw
      go_simp
      try with_reducible rfl
      try (intro hq; exact absurd hq (by omega))
    try simp only [Act.put, List.setIfInBounds_toArray, List.set_cons_zero, List.set_cons_succ]
    refine wpAnyH_take (i := 4) (oi := ({ dst := some 10, op := Go.Op.move (Go.Operand.tmp 0), type := 37, pos := "log.go:47", after := #[], guard := none } : Go.Oper)) (v := .pointer (some ⟨b, 0, none⟩)) rfl (by kernel_rfl) (by kernel_rfl) (by kernel_rfl) (fun _ _ _ h => h) (Or.inl ⟨by rfl, ?_⟩) (by assumption) ?_
    · intro wx hSw
      try dsimp only at hSw
      obtain ⟨-, u0, u1⟩ := hSw
      go_simp
      try with_reducible rfl
      try (intro hq; exact absurd hq (by omega))
    try simp only [Act.put, List.setIfInBounds_toArray, List.set_cons_zero, List.set_cons_succ]
    refine wpAnyH_ready (rs := [5]) (by kernel_rfl) (by simp) ?_
    refine AllReadyH.cons (o := ({ dst := some 11, op := Go.Op.call { callee := Go.Callee.value (Go.Operand.func 19), args := #[Go.Operand.tmp 10], argTypes := #[37] }, type := 3, pos := "log.go:47", after := #[{ on := 4, ground := Go.Ground.data }], guard := none } : Go.Oper)) rfl (fun K hK => ?_) AllReadyH.nil
    go_simp
    refine (len_cell hHeld.2.1).mono ?_
    rintro e wk ⟨rfl, rfl⟩
    refine hK.out _ _ hHeld (fun hHeld => ?_)
    clear hK K
    try simp only [Act.put, List.setIfInBounds_toArray, List.set_cons_zero, List.set_cons_succ]
    refine wpAnyH_take (i := 6) (oi := ({ dst := some 12, op := Go.Op.binOp Go.BinOp.sub 3 (Go.Operand.tmp 11) (Go.Operand.const (Go.Value.int Go.IntKind.i64 1)) 3, type := 3, pos := "log.go:47", after := #[{ on := 5, ground := Go.Ground.data }], guard := none } : Go.Oper)) (v := .int .i64 (n : Int)) rfl (by kernel_rfl) (by kernel_rfl) (by kernel_rfl) (fun _ _ _ h => h) (Or.inl ⟨by rfl, ?_⟩) (by assumption) ?_
    · intro wx hSw
      try dsimp only at hSw
      obtain ⟨-, u0, u1⟩ := hSw
      go_simp
      try with_reducible rfl
      try (intro hq; exact absurd hq (by omega))
    try simp only [Act.put, List.setIfInBounds_toArray, List.set_cons_zero, List.set_cons_succ]
    refine wpAnyH_take (i := 7) (oi := ({ dst := some 13, op := Go.Op.indexAddr 29 (Go.Operand.tmp 9) (Go.Operand.tmp 12), type := 0, pos := "log.go:47", after := #[{ on := 3, ground := Go.Ground.data }, { on := 6, ground := Go.Ground.data }], guard := none } : Go.Oper)) (v := .pointer (some ⟨g, n * 3, none⟩)) rfl (by kernel_rfl) (by kernel_rfl) (by kernel_rfl) (fun _ _ _ h => h) (Or.inl ⟨by rfl, ?_⟩) (by assumption) ?_
    · intro wx hSw
      try dsimp only at hSw
      obtain ⟨-, u0, u1⟩ := hSw
      go_simp
      try with_reducible rfl
      try (intro hq; exact absurd hq (by omega))
    try simp only [Act.put, List.setIfInBounds_toArray, List.set_cons_zero, List.set_cons_succ]
    refine wpAnyH_take (i := 8) (oi := ({ dst := some 14, op := Go.Op.fieldAddr 23 (Go.Operand.tmp 13) 1, type := 0, pos := "log.go:47", after := #[{ on := 7, ground := Go.Ground.data }], guard := none } : Go.Oper)) (v := .pointer (some ⟨g, n * 3 + 1, none⟩)) rfl (by kernel_rfl) (by kernel_rfl) (by kernel_rfl) (fun _ _ _ h => h) (Or.inl ⟨by rfl, ?_⟩) (by assumption) ?_
    · intro wx hSw
      try dsimp only at hSw
      obtain ⟨-, u0, u1⟩ := hSw
      go_simp
      try with_reducible rfl
      try (intro hq; exact absurd hq (by omega))
    try simp only [Act.put, List.setIfInBounds_toArray, List.set_cons_zero, List.set_cons_succ]
    refine wpAnyH_take (i := 9) (oi := ({ dst := some 15, op := Go.Op.load 3 (Go.Operand.tmp 14), type := 3, pos := "log.go:47", after := #[{ on := 8, ground := Go.Ground.data }], guard := none } : Go.Oper)) (v := .int .i64 T) rfl (by kernel_rfl) (by kernel_rfl) (by kernel_rfl) (fun _ _ _ h => h) (Or.inl ⟨by rfl, ?_⟩) (by assumption) ?_
    · intro wx hSw
      try dsimp only at hSw
      obtain ⟨-, u0, u1⟩ := hSw
      go_simp
      try with_reducible rfl
      try (intro hq; exact absurd hq (by omega))
    try simp only [Act.put, List.setIfInBounds_toArray, List.set_cons_zero, List.set_cons_succ]
    refine wpAnyH_take (i := 10) (oi := ({ dst := some 2, op := Go.Op.assign (Go.Operand.tmp 15), type := 3, pos := "log.go:47", after := #[{ on := 9, ground := Go.Ground.data }, { on := 5, ground := Go.Ground.chain }, { on := 0, ground := Go.Ground.phase }, { on := 1, ground := Go.Ground.phase }, { on := 2, ground := Go.Ground.phase }, { on := 3, ground := Go.Ground.phase }, { on := 4, ground := Go.Ground.phase }, { on := 5, ground := Go.Ground.phase }, { on := 6, ground := Go.Ground.phase }, { on := 7, ground := Go.Ground.phase }, { on := 8, ground := Go.Ground.phase }, { on := 9, ground := Go.Ground.phase }], guard := none } : Go.Oper)) (v := .int .i64 T) rfl (by kernel_rfl) (by kernel_rfl) (by kernel_rfl) (fun _ _ _ h => h) (Or.inl ⟨by rfl, ?_⟩) (by assumption) ?_
    · intro wx hSw
      try dsimp only at hSw
      obtain ⟨-, u0, u1⟩ := hSw
      go_simp
      try with_reducible rfl
      try (intro hq; exact absurd hq (by omega))
    try simp only [Act.put, List.setIfInBounds_toArray, List.set_cons_zero, List.set_cons_succ]
    refine wpAnyH_done (by kernel_rfl) ?_ _
    go_wp2
    go_ret
    exact ⟨rfl, belU hHeld.1⟩
set_option maxHeartbeats 1000000 in
theorem rnow_any {w : World} {b : Nat} {v : Value} {l : List Ev} (h : LG w b v l) (hl : l.length ≤ 1000000) :
    Calls Try.prog 21 #[.pointer (some ⟨b, 0, none⟩)] w fun e w' => e = .returned (.int .i64 (nowE l)) ∧ Below w.heap.size w w' := by
  obtain ⟨a, c, rfl⟩ := h.eo.shape
  obtain ⟨c0, -⟩ := h.at_.one
  by_cases h0 : l.length = 0
  · obtain rfl := List.length_eq_zero_iff.1 h0
    go_enter Try.func21, Try.ntmps21
    go_wp2
    go_ret
    exact ⟨rfl, Below.refl _ _⟩
  · obtain ⟨n, hn⟩ : ∃ n, l.length = n + 1 := ⟨l.length - 1, by omega⟩
    obtain ⟨x, hx⟩ : ∃ x, l[n]? = some x := ⟨_, List.getElem?_eq_getElem (by omega)⟩
    obtain ⟨g, cap, hv, -, hr⟩ := h.eo.cells hx
    cases hv
    have t0 : (((n + 1 : Nat) : Int) == 0) = false := by simp; omega
    have c1 : w.cell? ⟨g, n * 3 + 1, none⟩ = some (.int .i64 x.t) := hr 1 _ rfl
    have e : nowE l = x.t := nowE_at hn hx
    rw [e]
    rw [hn] at c0
    generalize x.t = T at *
    have kw : IntKind.i64.wrap (n : Int) = n := by rw [IntKind.wrap_i64]; omega
    clear e hr hx h
    go_enter Try.func21, Try.ntmps21
    go_wp2
    refine wp_region_held_drew (S := (fun W => Below w.drew.heap.size w.drew W ∧ W.cell? ⟨b, 0, none⟩ = some (.slice (some ⟨g, 0, none⟩) (n + 1) c) ∧ W.cell? ⟨g, n * 3 + 1, none⟩ = some (.int .i64 T))) (by kernel_rfl) ?_ (fun hHeld => ?_)
    · first | exact ⟨Below.refl _ _, c0, c1⟩ | assumption
    refine wpAnyH_take (i := 0) (oi := ({ dst := some 9, op := Go.Op.move (Go.Operand.tmp 0), type := 39, pos := "ref.go:75", after := #[], guard := none } : Go.Oper)) (v := .pointer (some ⟨b, 0, none⟩)) rfl (by kernel_rfl) (by kernel_rfl) (by kernel_rfl) (fun _ _ _ h => h) (Or.inl ⟨by rfl, ?_⟩) (by assumption) ?_
    · intro wx hSw
      try dsimp only at hSw
      obtain ⟨-, u0, u1⟩ := hSw
      go_simp
      try with_reducible rfl
      try (intro hq; exact absurd hq (by omega))
    try simp only [Act.put, List.setIfInBounds_toArray, List.set_cons_zero, List.set_cons_succ]
    refine wpAnyH_take (i := 1) (oi := ({ dst := some 10, op := Go.Op.nilCheck (Go.Operand.tmp 9), type := 0, pos := "ref.go:75", after := #[{ on := 0, ground := Go.Ground.data }], guard := none } : Go.Oper)) (v := .pointer (some ⟨b, 0, none⟩)) rfl (by kernel_rfl) (by kernel_rfl) (by kernel_rfl) (fun _ _ _ h => h) (Or.inl ⟨by rfl, ?_⟩) (by assumption) ?_
    · intro wx hSw
      try dsimp only at hSw
      obtain ⟨-, u0, u1⟩ := hSw
      go_simp
      try with_reducible rfl
      try (intro hq; exact absurd hq (by omega))
    try simp only [Act.put, List.setIfInBounds_toArray, List.set_cons_zero, List.set_cons_succ]
    refine wpAnyH_take (i := 2) (oi := ({ dst := some 11, op := Go.Op.fieldAddr 41 (Go.Operand.tmp 10) 0, type := 0, pos := "ref.go:75", after := #[{ on := 1, ground := Go.Ground.data }], guard := none } : Go.Oper)) (v := .pointer (some ⟨b, 0, none⟩)) rfl (by kernel_rfl) (by kernel_rfl) (by kernel_rfl) (fun _ _ _ h => h) (Or.inl ⟨by rfl, ?_⟩) (by assumption) ?_
    · intro wx hSw
      try dsimp only at hSw
      obtain ⟨-, u0, u1⟩ := hSw
      go_simp
      try with_reducible rfl
      try (intro hq; exact absurd hq (by omega))
    try simp only [Act.put, List.setIfInBounds_toArray, List.set_cons_zero, List.set_cons_succ]
    refine wpAnyH_take (i := 3) (oi := ({ dst := some 12, op := Go.Op.load 29 (Go.Operand.tmp 11), type := 29, pos := "ref.go:75", after := #[{ on := 2, ground := Go.Ground.data }], guard := none } : Go.Oper)) (v := .slice (some ⟨g, 0, none⟩) (n + 1) c) rfl (by kernel_rfl) (by kernel_rfl) (by kernel_rfl) (fun _ _ _ h => h) (Or.inl ⟨by rfl, ?_⟩) (by assumption) ?_
    · intro wx hSw
      try dsimp only at hSw
      obtain ⟨-, u0, u1⟩ := hSw
      go_simp
      try with_reducible rfl
      try (intro hq; exact absurd hq (by omega))
    try simp only [Act.put, List.setIfInBounds_toArray, List.set_cons_zero, List.set_cons_succ]
    refine wpAnyH_take (i := 4) (oi := ({ dst := some 13, op := Go.Op.move (Go.Operand.tmp 0), type := 39, pos := "ref.go:75", after := #[], guard := none } : Go.Oper)) (v := .pointer (some ⟨b, 0, none⟩)) rfl (by kernel_rfl) (by kernel_rfl) (by kernel_rfl) (fun _ _ _ h => h) (Or.inl ⟨by rfl, ?_⟩) (by assumption) ?_
    · intro wx hSw
      try dsimp only at hSw
      obtain ⟨-, u0, u1⟩ := hSw
      go_simp
      try with_reducible rfl
      try (intro hq; exact absurd hq (by omega))
    try simp only [Act.put, List.setIfInBounds_toArray, List.set_cons_zero, List.set_cons_succ]
    refine wpAnyH_take (i := 5) (oi := ({ dst := some 14, op := Go.Op.nilCheck (Go.Operand.tmp 13), type := 0, pos := "ref.go:75", after := #[{ on := 4, ground := Go.Ground.data }], guard := none } : Go.Oper)) (v := .pointer (some ⟨b, 0, none⟩)) rfl (by kernel_rfl) (by kernel_rfl) (by kernel_rfl) (fun _ _ _ h => h) (Or.inl ⟨by rfl, ?_⟩) (by assumption) ?_
    · intro wx hSw
      try dsimp only at hSw
      obtain ⟨-, u0, u1⟩ := hSw
      go_simp
      try with_reducible rfl
      try (intro hq; exact absurd hq (by omega))
    try simp only [Act.put, List.setIfInBounds_toArray, List.set_cons_zero, List.set_cons_succ]
    refine wpAnyH_take (i := 6) (oi := ({ dst := some 15, op := Go.Op.fieldAddr 41 (Go.Operand.tmp 14) 0, type := 0, pos := "ref.go:75", after := #[{ on := 5, ground := Go.Ground.data }], guard := none } : Go.Oper)) (v := .pointer (some ⟨b, 0, none⟩)) rfl (by kernel_rfl) (by kernel_rfl) (by kernel_rfl) (fun _ _ _ h => h) (Or.inl ⟨by rfl, ?_⟩) (by assumption) ?_
    · intro wx hSw
      try dsimp only at hSw
      obtain ⟨-, u0, u1⟩ := hSw
      go_simp
      try with_reducible rfl
      try (intro hq; exact absurd hq (by omega))
    try simp only [Act.put, List.setIfInBounds_toArray, List.set_cons_zero, List.set_cons_succ]
    refine wpAnyH_take (i := 7) (oi := ({ dst := some 16, op := Go.Op.load 29 (Go.Operand.tmp 15), type := 29, pos := "ref.go:75", after := #[{ on := 6, ground := Go.Ground.data }], guard := none } : Go.Oper)) (v := .slice (some ⟨g, 0, none⟩) (n + 1) c) rfl (by kernel_rfl) (by kernel_rfl) (by kernel_rfl) (fun _ _ _ h => h) (Or.inl ⟨by rfl, ?_⟩) (by assumption) ?_
    · intro wx hSw
      try dsimp only at hSw
      obtain ⟨-, u0, u1⟩ := hSw
      go_simp
      try with_reducible rfl
      try (intro hq; exact absurd hq (by omega))
    try simp only [Act.put, List.setIfInBounds_toArray, List.set_cons_zero, List.set_cons_succ]
    refine wpAnyH_take (i := 8) (oi := ({ dst := some 17, op := Go.Op.call { callee := Go.Callee.builtin Go.Builtin.len, args := #[Go.Operand.tmp 16], argTypes := #[29] }, type := 3, pos := "ref.go:75", after := #[{ on := 7, ground := Go.Ground.data }], guard := none } : Go.Oper)) (v := .int .i64 ((n + 1 : Nat) : Int)) rfl (by kernel_rfl) (by kernel_rfl) (by kernel_rfl) (fun _ _ _ h => h) (Or.inl ⟨by rfl, ?_⟩) (by assumption) ?_
    · intro wx hSw
      try dsimp only at hSw
      obtain ⟨-, u0, u1⟩ := hSw
      go_simp
      try with_reducible rfl
      try (intro hq; exact absurd hq (by omega))
    try simp only [Act.put, List.setIfInBounds_toArray, List.set_cons_zero, List.set_cons_succ]
    refine wpAnyH_take (i := 9) (oi := ({ dst := some 18, op := Go.Op.binOp Go.BinOp.sub 3 (Go.Operand.tmp 17) (Go.Operand.const (Go.Value.int Go.IntKind.i64 1)) 3, type := 3, pos := "ref.go:75", after := #[{ on := 8, ground := Go.Ground.data }], guard := none } : Go.Oper)) (v := .int .i64 (n : Int)) rfl (by kernel_rfl) (by kernel_rfl) (by kernel_rfl) (fun _ _ _ h => h) (Or.inl ⟨by rfl, ?_⟩) (by assumption) ?_
    · intro wx hSw
      try dsimp only at hSw
      obtain ⟨-, u0, u1⟩ := hSw
      go_simp
      try with_reducible rfl
      try (intro hq; exact absurd hq (by omega))
    try simp only [Act.put, List.setIfInBounds_toArray, List.set_cons_zero, List.set_cons_succ]
    refine wpAnyH_take (i := 10) (oi := ({ dst := some 19, op := Go.Op.indexAddr 29 (Go.Operand.tmp 12) (Go.Operand.tmp 18), type := 0, pos := "ref.go:75", after := #[{ on := 3, ground := Go.Ground.data }, { on := 9, ground := Go.Ground.data }], guard := none } : Go.Oper)) (v := .pointer (some ⟨g, n * 3, none⟩)) rfl (by kernel_rfl) (by kernel_rfl) (by kernel_rfl) (fun _ _ _ h => h) (Or.inl ⟨by rfl, ?_⟩) (by assumption) ?_
    · intro wx hSw
      try dsimp only at hSw
      obtain ⟨-, u0, u1⟩ := hSw
      go_simp
      try with_reducible rfl
      try (intro hq; exact absurd hq (by omega))
    try simp only [Act.put, List.setIfInBounds_toArray, List.set_cons_zero, List.set_cons_succ]
    refine wpAnyH_take (i := 11) (oi := ({ dst := some 20, op := Go.Op.fieldAddr 23 (Go.Operand.tmp 19) 1, type := 0, pos := "ref.go:75", after := #[{ on := 10, ground := Go.Ground.data }], guard := none } : Go.Oper)) (v := .pointer (some ⟨g, n * 3 + 1, none⟩)) rfl (by kernel_rfl) (by kernel_rfl) (by kernel_rfl) (fun _ _ _ h => h) (Or.inl ⟨by rfl, ?_⟩) (by assumption) ?_
    · intro wx hSw
      try dsimp only at hSw
      obtain ⟨-, u0, u1⟩ := hSw
      go_simp
      try with_reducible rfl
      try (intro hq; exact absurd hq (by omega))
    try simp only [Act.put, List.setIfInBounds_toArray, List.set_cons_zero, List.set_cons_succ]
    refine wpAnyH_take (i := 12) (oi := ({ dst := some 21, op := Go.Op.load 3 (Go.Operand.tmp 20), type := 3, pos := "ref.go:75", after := #[{ on := 11, ground := Go.Ground.data }], guard := none } : Go.Oper)) (v := .int .i64 T) rfl (by kernel_rfl) (by kernel_rfl) (by kernel_rfl) (fun _ _ _ h => h) (Or.inl ⟨by rfl, ?_⟩) (by assumption) ?_
    · intro wx hSw
      try dsimp only at hSw
      obtain ⟨-, u0, u1⟩ := hSw
      go_simp
      try with_reducible rfl
      try (intro hq; exact absurd hq (by omega))
    try simp only [Act.put, List.setIfInBounds_toArray, List.set_cons_zero, List.set_cons_succ]
    refine wpAnyH_take (i := 13) (oi := ({ dst := some 2, op := Go.Op.assign (Go.Operand.tmp 21), type := 3, pos := "ref.go:75", after := #[{ on := 12, ground := Go.Ground.data }, { on := 0, ground := Go.Ground.phase }, { on := 1, ground := Go.Ground.phase }, { on := 2, ground := Go.Ground.phase }, { on := 3, ground := Go.Ground.phase }, { on := 4, ground := Go.Ground.phase }, { on := 5, ground := Go.Ground.phase }, { on := 6, ground := Go.Ground.phase }, { on := 7, ground := Go.Ground.phase }, { on := 8, ground := Go.Ground.phase }, { on := 9, ground := Go.Ground.phase }, { on := 10, ground := Go.Ground.phase }, { on := 11, ground := Go.Ground.phase }, { on := 12, ground := Go.Ground.phase }], guard := none } : Go.Oper)) (v := .int .i64 T) rfl (by kernel_rfl) (by kernel_rfl) (by kernel_rfl) (fun _ _ _ h => h) (Or.inl ⟨by rfl, ?_⟩) (by assumption) ?_
    · intro wx hSw
      try dsimp only at hSw
      obtain ⟨-, u0, u1⟩ := hSw
      go_simp
      try with_reducible rfl
      try (intro hq; exact absurd hq (by omega))
    try simp only [Act.put, List.setIfInBounds_toArray, List.set_cons_zero, List.set_cons_succ]
    refine wpAnyH_done (by kernel_rfl) ?_ _
    go_wp2
    go_ret
    exact ⟨rfl, belU hHeld.1⟩
set_option maxHeartbeats 1000000 in
theorem get_log {w : World} {b : Nat} {v : Value} {l : List Ev} (i : Int) (h : LG w b v l) (hl : l.length ≤ 1000000) (hi : (Lit.int .i64 i).wf = true) :
    Calls Try.prog 24 #[.pointer (some ⟨b, 0, none⟩), .int .i64 i] w fun e w' => e = .returned (.tuple #[(getE l i).v, .int .i64 (getC l i)]) ∧ Below w.heap.size w w' := by
  have hb := bel1 w (.cells zE.vs 23)
  have h' := h.later hb
  obtain ⟨⟨r0, r1, r2⟩, ⟨f0, f1, f2⟩, hlt⟩ := (At.box w zE.vs 23).three
  obtain ⟨a, c, rfl⟩ := h'.eo.shape
  obtain ⟨c0, -⟩ := h'.at_.one
  unfold getE getC
  by_cases h1 : 1 ≤ i
  · by_cases h2 : i ≤ (l.length : Int)
    · rw [if_pos ⟨h1, h2⟩, if_pos ⟨h1, h2⟩]
      obtain ⟨n, rfl⟩ : ∃ n : Nat, i = (n : Int) + 1 := ⟨(i - 1).toNat, by omega⟩
      rw [show ((n : Int) + 1 - 1).toNat = n by omega]
      obtain ⟨x, hx⟩ : ∃ x, l[n]? = some x := ⟨_, List.getElem?_eq_getElem (by omega)⟩
      have e : l.getD n zE = x := by rw [List.getD_eq_getElem?_getD, hx]; rfl
      rw [e]
      obtain ⟨g, cap, hv, -, hr⟩ := h'.eo.cells hx
      cases hv
      obtain ⟨K, T, D⟩ := x
      have q0 : (w.alloc (.cells zE.vs 23)).cell? ⟨g, n * 3, none⟩ = some (.int .i64 K) := hr 0 _ rfl
      have q1 : (w.alloc (.cells zE.vs 23)).cell? ⟨g, n * 3 + 1, none⟩ = some (.int .i64 T) := hr 1 _ rfl
      have q2 : (w.alloc (.cells zE.vs 23)).cell? ⟨g, n * 3 + 2, none⟩ = some (.string D) := hr 2 _ rfl
      have t1 : decide ((n : Int) + 1 < 1) = false := decide_eq_false (by omega)
      have t2 : decide ((l.length : Int) < (n : Int) + 1) = false := decide_eq_false (by omega)
      clear h h' e hr hx
      go_enter Try.func24, Try.ntmps24
      go_wp2_with fail
      refine (len_cell c0).mono ?_
      rintro e1 w1 ⟨rfl, rfl⟩
      go_wp2
      exact bodyPost_ret (v := .tuple #[.agg #[.int .i64 K, .int .i64 T, .string D], .int .i64 0]) (by simp [results, Try.results24, go_sem, r0, r1, r2]) rfl ⟨rfl, by first | exact hb | exact bel1 w _ | exact below3 hb (Nat.le_refl _) _ _ _⟩
    · rw [if_neg (by omega), if_neg (by omega)]
      have t1 : decide (i < 1) = false := decide_eq_false (by omega)
      have t2 : decide ((l.length : Int) < i) = true := decide_eq_true (by omega)
      clear h h'
      go_enter Try.func24, Try.ntmps24
      go_wp2_with fail
      refine (len_cell c0).mono ?_
      rintro e1 w1 ⟨rfl, rfl⟩
      go_wp2
      exact bodyPost_ret (v := .tuple #[zE.v, .int .i64 5]) (by simp [results, Try.results24, go_sem, r0, r1, r2]) rfl ⟨rfl, by first | exact hb | exact below3 hb (Nat.le_refl _) _ _ _⟩
  · rw [if_neg (by omega), if_neg (by omega)]
    have t1 : decide (i < 1) = true := decide_eq_true (by omega)
    clear h h'
    go_enter Try.func24, Try.ntmps24
    go_wp2
    exact bodyPost_ret (v := .tuple #[zE.v, .int .i64 5]) (by simp [results, Try.results24, go_sem, r0, r1, r2]) rfl ⟨rfl, by first | exact hb | exact below3 hb (Nat.le_refl _) _ _ _⟩
set_option maxHeartbeats 1000000 in
theorem rget_log {w : World} {b : Nat} {v : Value} {l : List Ev} (i : Int) (h : LG w b v l) (hl : l.length ≤ 1000000) (hi : (Lit.int .i64 i).wf = true) :
    Calls Try.prog 25 #[.pointer (some ⟨b, 0, none⟩), .int .i64 i] w fun e w' => e = .returned (.tuple #[(getE l i).v, .int .i64 (getC l i)]) ∧ Below w.heap.size w w' := by
  have hb := bel1 w (.cells zE.vs 23)
  have h' := h.later hb
  obtain ⟨⟨r0, r1, r2⟩, ⟨f0, f1, f2⟩, hlt⟩ := (At.box w zE.vs 23).three
  obtain ⟨a, c, rfl⟩ := h'.eo.shape
  obtain ⟨c0, -⟩ := h'.at_.one
  unfold getE getC
  by_cases h1 : 1 ≤ i
  · by_cases h2 : i ≤ (l.length : Int)
    · rw [if_pos ⟨h1, h2⟩, if_pos ⟨h1, h2⟩]
      obtain ⟨n, rfl⟩ : ∃ n : Nat, i = (n : Int) + 1 := ⟨(i - 1).toNat, by omega⟩
      rw [show ((n : Int) + 1 - 1).toNat = n by omega]
      obtain ⟨x, hx⟩ : ∃ x, l[n]? = some x := ⟨_, List.getElem?_eq_getElem (by omega)⟩
      have e : l.getD n zE = x := by rw [List.getD_eq_getElem?_getD, hx]; rfl
      rw [e]
      obtain ⟨g, cap, hv, -, hr⟩ := h'.eo.cells hx
      cases hv
      obtain ⟨K, T, D⟩ := x
      have q0 : (w.alloc (.cells zE.vs 23)).cell? ⟨g, n * 3, none⟩ = some (.int .i64 K) := hr 0 _ rfl
      have q1 : (w.alloc (.cells zE.vs 23)).cell? ⟨g, n * 3 + 1, none⟩ = some (.int .i64 T) := hr 1 _ rfl
      have q2 : (w.alloc (.cells zE.vs 23)).cell? ⟨g, n * 3 + 2, none⟩ = some (.string D) := hr 2 _ rfl
      have t1 : decide ((n : Int) + 1 < 1) = false := decide_eq_false (by omega)
      have t2 : decide ((l.length : Int) < (n : Int) + 1) = false := decide_eq_false (by omega)
      clear h h' e hr hx
      go_enter Try.func25, Try.ntmps25
      go_wp2
      exact bodyPost_ret (v := .tuple #[.agg #[.int .i64 K, .int .i64 T, .string D], .int .i64 0]) (by simp [results, Try.results25, go_sem, r0, r1, r2]) rfl ⟨rfl, by first | exact hb | exact bel1 w _ | exact below3 hb (Nat.le_refl _) _ _ _⟩
    · rw [if_neg (by omega), if_neg (by omega)]
      have t1 : decide (i < 1) = false := decide_eq_false (by omega)
      have t2 : decide ((l.length : Int) < i) = true := decide_eq_true (by omega)
      clear h h'
      go_enter Try.func25, Try.ntmps25
      go_wp2
      exact bodyPost_ret (v := .tuple #[zE.v, .int .i64 5]) (by simp [results, Try.results25, go_sem, r0, r1, r2]) rfl ⟨rfl, by first | exact hb | exact below3 hb (Nat.le_refl _) _ _ _⟩
  · rw [if_neg (by omega), if_neg (by omega)]
    have t1 : decide (i < 1) = true := decide_eq_true (by omega)
    clear h h'
    go_enter Try.func25, Try.ntmps25
    go_wp2
    exact bodyPost_ret (v := .tuple #[zE.v, .int .i64 5]) (by simp [results, Try.results25, go_sem, r0, r1, r2]) rfl ⟨rfl, by first | exact hb | exact below3 hb (Nat.le_refl _) _ _ _⟩
end Go.Proofs.Ytgjkplkghoeeeaa
