/- refused, send, leave, askAny. -/
import Derived.Test.YthbpapgfjmpgaaaGreatKc
namespace Go.Proofs.YthbpapgfjmpgaaaGreat
open Go.RowKit Go.Maps
set_option maxRecDepth 100000
set_option linter.unusedVariables false
set_option linter.unusedSimpArgs false


abbrev doneV (tag code fd : Int) : Value := .agg #[.int .i64 tag, .int .i64 code, .int .i64 fd, .int .i64 0, .string ⟨#[]⟩]
structure SK (w : World) (B T L M : Nat) (s : Nat → Int) (v : Value) (l : List Vn) : Prop where
  b : BX w B T s v
  t : TX w T L M l
  n1 : B ≠ T
  n2 : B ≠ L
  n3 : B ≠ M
theorem SK.turn {A : Nat → Prop} {w w' : World} {B T L M : Nat} {s : Nat → Int} {v : Value} {l : List Vn} (h : SK w B T L M s v l) (ht : Turn A w w') (hB : ¬ A B) (hT : ¬ A T) (hL : ¬ A L) (hM : ¬ A M) : SK w' B T L M s v l :=
  ⟨h.b.turn ht hB, h.t.turn ht hT hL hM, h.n1, h.n2, h.n3⟩
theorem SK.later {w w' : World} {B T L M : Nat} {s : Nat → Int} {v : Value} {l : List Vn} (h : SK w B T L M s v l) (hb : Below w.heap.size w w') : SK w' B T L M s v l := h.turn (A := fun _ => False) (Turn.of_below hb) (fun h => h) (fun h => h) (fun h => h) (fun h => h)
theorem SK.lt {w : World} {B T L M : Nat} {s : Nat → Int} {v : Value} {l : List Vn} (h : SK w B T L M s v l) : B < w.heap.size ∧ T < w.heap.size ∧ L < w.heap.size ∧ M < w.heap.size := ⟨h.b.lt, h.t.lt⟩
theorem refused_any (c : Int) (w : World) : Calls Tryz.prog 27 #[.int .i64 c] w fun e w' => e = .returned (doneV 0 c 0) ∧ Below w.heap.size w w' := by
  go_enter Tryz.func27, Tryz.ntmps27
  go_wp2
  go_returns
  exact ⟨rfl, bel1 w _⟩
theorem leave_any {w : World} {T L M : Nat} {l : List Vn} {p now : Int} (h : TX w T L M l) (h0 : 1 ≤ p) (h1 : p ≤ 65535) (hl : vlk l p = some EV) :
    Calls Tryz.prog 163 #[.agg #[.int .i64 p], PB T, .int .i64 now] w fun e w' => e = .returned (.slice none 0 0) ∧ TX w' T L M (vdel l p) ∧ Turn (fun k => k = T ∨ k = L) w w' := by
  have q1 := bel1 w (.cells #[.int .i64 p] 82)
  have hA := At.box w #[.int .i64 p] 82
  have c := (hA.2 0 _ rfl).1
  go_enter Tryz.func163, Tryz.ntmps163
  go_wp2_with fail
  refine (silence_t (h.later q1) h0 h1 hl).mono ?_
  rintro e w2 ⟨rfl, h2, ht⟩
  go_wp2
  go_ret
  exact ⟨rfl, h2, (Turn.of_below q1).trans ht⟩
theorem run_append_nn (t ty : TypeId) (w : World) (h : t = 37) : (Builtin.append_ #[t, t] ty #[.slice none 0 0, .slice none 0 0]).run Tryz.prog w = .ok (.slice none 0 0) w := by subst h; kernel_rfl
theorem send_nil {w : World} {K B : Nat} {now : Int} (h : At w K #[PB B, .int .i64 now, .slice none 0 0]) : Calls Tryz.prog 34 #[PB K, .slice none 0 0] w fun e w' => e = .returned (.tuple #[]) ∧ At w' K #[PB B, .int .i64 now, .slice none 0 0] ∧ Turn (fun k => k = K) w w' := by
  have c : w.cell? ⟨K, 2, none⟩ = some (.slice none 0 0) := (h.2 2 _ rfl).1
  have f := (h.2 2 _ rfl).2
  have hap := fun ty => run_append_nn 37 ty w rfl
  have hfin : At (w.setCell ⟨K, 2, none⟩ (.slice none 0 0)) K #[PB B, .int .i64 now, .slice none 0 0] := h.set 2 (.slice none 0 0)
  have HF : Hid _ := hfin
  clear hfin h
  go_enter Tryz.func34, Tryz.ntmps34
  go_wp2
  go_end0
  exact ⟨rfl, HF.out, turn_set w K 2 _⟩
theorem step_any {ops : Array Oper} {o : Oper} {a : Act} {w : World} {K : Act → World → Prop} {Q : Exit → Act → World → Prop} {E : Prop} (hg : o.guard = none) (h : Oper.wp Tryz.prog o a w K Q) : if Region.wanted o (yielded ops a.tmps) = true then Oper.wp Tryz.prog o a w K Q else E := by
  have hw : Region.wanted o (yielded ops a.tmps) = true := by simp [Region.wanted, hg]
  rw [if_pos hw]
  exact h
theorem At.five {W : World} {b : Nat} {a0 a1 a2 a3 a4 : Value} (h : At W b #[a0, a1, a2, a3, a4]) : W.cell? ⟨b, 0, none⟩ = some a0 ∧ W.cell? ⟨b, 1, none⟩ = some a1 ∧ W.cell? ⟨b, 2, none⟩ = some a2 ∧ W.cell? ⟨b, 3, none⟩ = some a3 ∧ W.cell? ⟨b, 4, none⟩ = some a4 ∧
    W.frozen? ⟨b, 0, none⟩ = false ∧ W.frozen? ⟨b, 1, none⟩ = false ∧ W.frozen? ⟨b, 2, none⟩ = false ∧ W.frozen? ⟨b, 3, none⟩ = false ∧ W.frozen? ⟨b, 4, none⟩ = false :=
  ⟨(h.2 0 _ rfl).1, (h.2 1 _ rfl).1, (h.2 2 _ rfl).1, (h.2 3 _ rfl).1, (h.2 4 _ rfl).1, (h.2 0 _ rfl).2, (h.2 1 _ rfl).2, (h.2 2 _ rfl).2, (h.2 3 _ rfl).2, (h.2 4 _ rfl).2⟩
theorem At.range5 {W : World} {b : Nat} {vs : Array Value} (h : At W b vs) : W.rangeAt b 0 vs.toList := by
  intro j v hj
  rw [Nat.zero_add]
  exact (h.2 j v (by simpa using hj)).1
theorem size43 : (Tryz.prog.info? 43).map (·.size) = some 5 := by kernel_rfl
theorem ret_done {fn : Func} {i : Nat} (hres : fn.results = #[.cell i 43]) {tmps : Array Value} {W : World} {b : Nat} {vs : Array Value} (hA : At W b vs) (hs : vs.size = 5) (hi : tmps.getD i undef = .pointer (some ⟨b, 0, none⟩)) : (results fn tmps).run Tryz.prog W = .ok (.agg vs) W := by
  have hl := run_loadVar_mid (P := Tryz.prog) W b 0 43 vs.toList _ hA.range5 Tryz.underlying43 rfl (by rw [show vs.toList.length = 5 by simpa using hs]; exact size43)
  rw [Array.getD_eq_getD_getElem?] at hi
  unfold results
  rw [hres]
  simp [hi, asAddr, hl]
theorem ret_done2 {fn : Func} {i j : Nat} (hres : fn.results = #[.cell i 43, .tmp j]) {tmps : Array Value} {W : World} {b : Nat} {vs : Array Value} {x : Value} (hA : At W b vs) (hs : vs.size = 5) (hi : tmps.getD i undef = .pointer (some ⟨b, 0, none⟩)) (hj : tmps.getD j undef = x) : (results fn tmps).run Tryz.prog W = .ok (.tuple #[.agg vs, x]) W := by
  have hl := run_loadVar_mid (P := Tryz.prog) W b 0 43 vs.toList _ hA.range5 Tryz.underlying43 rfl (by rw [show vs.toList.length = 5 by simpa using hs]; exact size43)
  rw [Array.getD_eq_getD_getElem?] at hi hj
  unfold results
  rw [hres]
  simp [hi, hj, asAddr, hl]
abbrev put5 (W : World) (b : Nat) (u0 u1 u2 u3 u4 : Value) : World := ((((W.setCell ⟨b, 0, none⟩ u0).setCell ⟨b, 1, none⟩ u1).setCell ⟨b, 2, none⟩ u2).setCell ⟨b, 3, none⟩ u3).setCell ⟨b, 4, none⟩ u4
theorem At.put5 {W : World} {b : Nat} {a0 a1 a2 a3 a4 : Value} (h : At W b #[a0, a1, a2, a3, a4]) (u0 u1 u2 u3 u4 : Value) : At (put5 W b u0 u1 u2 u3 u4) b #[u0, u1, u2, u3, u4] ∧ Turn (fun k => k = b) W (put5 W b u0 u1 u2 u3 u4) :=
  ⟨((((h.set 0 u0).set 1 u1).set 2 u2).set 3 u3).set 4 u4, ((((turn_set _ _ _ _).trans (turn_set _ _ _ _)).trans (turn_set _ _ _ _)).trans (turn_set _ _ _ _)).trans (turn_set _ _ _ _)⟩
abbrev lV (p : Int) : Value := .iface 82 (.agg #[.int .i64 p])
abbrev lvF (p : Int) : Value := .func (.method "sternpost/sock.leave") #[lV p] #[]
set_option maxHeartbeats 1000000 in
theorem close_any {w : World} {B T L M J W : Nat} {s : Nat → Int} {v : Value} {l : List Vn} {i : Nat} {tag port now : Int} (h : SK w B T L M s v l) (hi : i < 64) (h0 : 1 ≤ s i) (h1 : s i ≤ 65535) (hl : vlk l (s i) = some EV)
    (hJ : At w J #[PB B, .int .i64 now, .slice none 0 0]) (hW : At w W #[.int .i64 tag, .int .i64 7, .int .i64 (i : Int), .int .i64 0, .int .i64 port, .int .i64 0, .string ⟨#[]⟩, .int .i64 0, .int .i64 0, .int .i64 0])
    (k1 : J ≠ B) (k2 : J ≠ T) (k3 : J ≠ L) (k4 : J ≠ M) (w1 : W ≠ B) (w2 : W ≠ T) (w3 : W ≠ L) (w4 : W ≠ J) :
    Calls Tryz.prog 25 #[PB J, lV (s i), PB W] w fun e w' => e = .returned (doneV 0 0 0) ∧ SK w' B T L M (upS s i 0) v (vdel l (s i)) ∧ At w' J #[PB B, .int .i64 now, .slice none 0 0] ∧ At w' W #[.int .i64 tag, .int .i64 7, .int .i64 (i : Int), .int .i64 0, .int .i64 port, .int .i64 0, .string ⟨#[]⟩, .int .i64 0, .int .i64 0, .int .i64 0] ∧ Turn (fun k => k = B ∨ k = T ∨ k = L ∨ k = J) w w' := by
  obtain ⟨p, hp⟩ : ∃ p, p = s i := ⟨_, rfl⟩
  rw [← hp] at h0 h1 hl ⊢
  have HP : Hid (p = s i) := hp
  clear hp
  have hna : ∀ w, (nilAhead 350 82 (.agg #[.int .i64 p]) "sternpost/sock.leave").run Tryz.prog w = .ok (some false) w := by intro w; kernel_rfl
  have hme : ∀ w, (method 350 82 (.agg #[.int .i64 p]) "sternpost/sock.leave").run Tryz.prog w = .ok (163, .agg #[.int .i64 p]) w := by intro w; kernel_rfl
  go_enter Tryz.func25, Tryz.ntmps25
  go_upto_region 1 with fail
  have q1 := bel1 w (.cells #[.int .i64 0, .int .i64 0, .int .i64 0, .int .i64 0, .string ⟨#[]⟩] 43)
  have hR := At.box w #[.int .i64 0, .int .i64 0, .int .i64 0, .int .i64 0, .string ⟨#[]⟩] 43
  have hrm : ¬ M = w.heap.size := by have := h.lt; omega
  have hrw : ¬ W = w.heap.size := by have := hW.1; omega
  have hr1 : w.heap.size ≠ B ∧ w.heap.size ≠ T ∧ w.heap.size ≠ L ∧ w.heap.size ≠ J := by have := h.lt; have := hJ.1; omega
  have ht1 : Turn (fun k => k = B ∨ k = T ∨ k = L ∨ k = J) w (w.alloc (.cells #[.int .i64 0, .int .i64 0, .int .i64 0, .int .i64 0, .string ⟨#[]⟩] 43)) := Turn.of_below q1
  have h := h.later q1
  have hJ := hJ.later q1
  have hW := hW.later q1
  generalize w.alloc (.cells #[.int .i64 0, .int .i64 0, .int .i64 0, .int .i64 0, .string ⟨#[]⟩] 43) = x1 at *
  obtain ⟨R, hRe⟩ : ∃ x, x = w.heap.size := ⟨_, rfl⟩
  rw [← hRe] at hR hr1 hrm hrw ⊢
  have hRle : w.heap.size ≤ R := by omega
  clear q1 hRe
  have cw : x1.cell? ⟨W, 1, none⟩ = some (.int .i64 7) := (hW.2 1 _ rfl).1
  go_upto_region 3 with fail
  clear cw
  have hdr : Below x1.heap.size x1 x1.drew := (Below.refl _ _).drew
  have q0 : x1.drew.cell? ⟨J, 0, none⟩ = some (PB B) := (hJ.2 0 _ rfl).1
  have q1 : x1.drew.cell? ⟨J, 1, none⟩ = some (.int .i64 now) := (hJ.2 1 _ rfl).1
  have q2 : x1.drew.cell? ⟨B, 0, none⟩ = some (PB T) := h.b.c0
  refine wp_region_held_drew (S := (fun W => W.cell? ⟨J, 0, none⟩ = some (PB B) ∧ W.cell? ⟨J, 1, none⟩ = some (.int .i64 now) ∧ W.cell? ⟨B, 0, none⟩ = some (PB T))) (by kernel_rfl) ?_ (fun hHeld => ?_)
  · first | exact ⟨q0, q1, q2⟩ | assumption
  refine wpAnyH_take (i := 0) (oi := ({ dst := some 14, op := Go.Op.move (Go.Operand.tmp 0), type := 70, pos := "look.go:50", after := #[], guard := none } : Go.Oper)) (v := .pointer (some ⟨J, 0, none⟩)) rfl (by kernel_rfl) (by kernel_rfl) (by kernel_rfl) (fun _ _ _ h => h) (Or.inl ⟨by rfl, ?_⟩) (by assumption) ?_
  · intro wx hSw
    try dsimp only at hSw
    obtain ⟨u0, u1, u2⟩ := hSw
    go_simp
    try with_reducible rfl
  try simp only [Act.put, List.setIfInBounds_toArray, List.set_cons_zero, List.set_cons_succ]
  refine wpAnyH_take (i := 1) (oi := ({ dst := some 15, op := Go.Op.move (Go.Operand.tmp 1), type := 50, pos := "look.go:50", after := #[], guard := none } : Go.Oper)) (v := lV p) rfl (by kernel_rfl) (by kernel_rfl) (by kernel_rfl) (fun _ _ _ h => h) (Or.inl ⟨by rfl, ?_⟩) (by assumption) ?_
  · intro wx hSw
    try dsimp only at hSw
    obtain ⟨u0, u1, u2⟩ := hSw
    go_simp
    try with_reducible rfl
  try simp only [Act.put, List.setIfInBounds_toArray, List.set_cons_zero, List.set_cons_succ]
  refine wpAnyH_take (i := 2) (oi := ({ dst := some 16, op := Go.Op.move (Go.Operand.tmp 0), type := 70, pos := "look.go:50", after := #[], guard := none } : Go.Oper)) (v := .pointer (some ⟨J, 0, none⟩)) rfl (by kernel_rfl) (by kernel_rfl) (by kernel_rfl) (fun _ _ _ h => h) (Or.inl ⟨by rfl, ?_⟩) (by assumption) ?_
  · intro wx hSw
    try dsimp only at hSw
    obtain ⟨u0, u1, u2⟩ := hSw
    go_simp
    try with_reducible rfl
  try simp only [Act.put, List.setIfInBounds_toArray, List.set_cons_zero, List.set_cons_succ]
  refine wpAnyH_take (i := 3) (oi := ({ dst := some 17, op := Go.Op.nilCheck (Go.Operand.tmp 16), type := 0, pos := "look.go:50", after := #[{ on := 2, ground := Go.Ground.data }], guard := none } : Go.Oper)) (v := .pointer (some ⟨J, 0, none⟩)) rfl (by kernel_rfl) (by kernel_rfl) (by kernel_rfl) (fun _ _ _ h => h) (Or.inl ⟨by rfl, ?_⟩) (by assumption) ?_
  · intro wx hSw
    try dsimp only at hSw
    obtain ⟨u0, u1, u2⟩ := hSw
    go_simp
    try with_reducible rfl
  try simp only [Act.put, List.setIfInBounds_toArray, List.set_cons_zero, List.set_cons_succ]
  refine wpAnyH_take (i := 4) (oi := ({ dst := some 18, op := Go.Op.fieldAddr 72 (Go.Operand.tmp 17) 0, type := 0, pos := "look.go:50", after := #[{ on := 3, ground := Go.Ground.data }], guard := none } : Go.Oper)) (v := .pointer (some ⟨J, 0, none⟩)) rfl (by kernel_rfl) (by kernel_rfl) (by kernel_rfl) (fun _ _ _ h => h) (Or.inl ⟨by rfl, ?_⟩) (by assumption) ?_
  · intro wx hSw
    try dsimp only at hSw
    obtain ⟨u0, u1, u2⟩ := hSw
    go_simp
    try with_reducible rfl
  try simp only [Act.put, List.setIfInBounds_toArray, List.set_cons_zero, List.set_cons_succ]
  refine wpAnyH_take (i := 5) (oi := ({ dst := some 19, op := Go.Op.load 23 (Go.Operand.tmp 18), type := 23, pos := "look.go:50", after := #[{ on := 4, ground := Go.Ground.data }], guard := none } : Go.Oper)) (v := PB B) rfl (by kernel_rfl) (by kernel_rfl) (by kernel_rfl) (fun _ _ _ h => h) (Or.inl ⟨by rfl, ?_⟩) (by assumption) ?_
  · intro wx hSw
    try dsimp only at hSw
    obtain ⟨u0, u1, u2⟩ := hSw
    go_simp
    try with_reducible rfl
  try simp only [Act.put, List.setIfInBounds_toArray, List.set_cons_zero, List.set_cons_succ]
  refine wpAnyH_take (i := 6) (oi := ({ dst := some 20, op := Go.Op.nilCheck (Go.Operand.tmp 19), type := 0, pos := "look.go:50", after := #[{ on := 5, ground := Go.Ground.data }], guard := none } : Go.Oper)) (v := PB B) rfl (by kernel_rfl) (by kernel_rfl) (by kernel_rfl) (fun _ _ _ h => h) (Or.inl ⟨by rfl, ?_⟩) (by assumption) ?_
  · intro wx hSw
    try dsimp only at hSw
    obtain ⟨u0, u1, u2⟩ := hSw
    go_simp
    try with_reducible rfl
  try simp only [Act.put, List.setIfInBounds_toArray, List.set_cons_zero, List.set_cons_succ]
  refine wpAnyH_take (i := 7) (oi := ({ dst := some 21, op := Go.Op.fieldAddr 54 (Go.Operand.tmp 20) 0, type := 0, pos := "look.go:50", after := #[{ on := 6, ground := Go.Ground.data }], guard := none } : Go.Oper)) (v := .pointer (some ⟨B, 0, none⟩)) rfl (by kernel_rfl) (by kernel_rfl) (by kernel_rfl) (fun _ _ _ h => h) (Or.inl ⟨by rfl, ?_⟩) (by assumption) ?_
  · intro wx hSw
    try dsimp only at hSw
    obtain ⟨u0, u1, u2⟩ := hSw
    go_simp
    try with_reducible rfl
  try simp only [Act.put, List.setIfInBounds_toArray, List.set_cons_zero, List.set_cons_succ]
  refine wpAnyH_take (i := 8) (oi := ({ dst := some 22, op := Go.Op.load 46 (Go.Operand.tmp 21), type := 46, pos := "look.go:50", after := #[{ on := 7, ground := Go.Ground.data }], guard := none } : Go.Oper)) (v := PB T) rfl (by kernel_rfl) (by kernel_rfl) (by kernel_rfl) (fun _ _ _ h => h) (Or.inl ⟨by rfl, ?_⟩) (by assumption) ?_
  · intro wx hSw
    try dsimp only at hSw
    obtain ⟨u0, u1, u2⟩ := hSw
    go_simp
    try with_reducible rfl
  try simp only [Act.put, List.setIfInBounds_toArray, List.set_cons_zero, List.set_cons_succ]
  refine wpAnyH_take (i := 9) (oi := ({ dst := some 23, op := Go.Op.move (Go.Operand.tmp 0), type := 70, pos := "look.go:50", after := #[], guard := none } : Go.Oper)) (v := .pointer (some ⟨J, 0, none⟩)) rfl (by kernel_rfl) (by kernel_rfl) (by kernel_rfl) (fun _ _ _ h => h) (Or.inl ⟨by rfl, ?_⟩) (by assumption) ?_
  · intro wx hSw
    try dsimp only at hSw
    obtain ⟨u0, u1, u2⟩ := hSw
    go_simp
    try with_reducible rfl
  try simp only [Act.put, List.setIfInBounds_toArray, List.set_cons_zero, List.set_cons_succ]
  refine wpAnyH_take (i := 10) (oi := ({ dst := some 24, op := Go.Op.nilCheck (Go.Operand.tmp 23), type := 0, pos := "look.go:50", after := #[{ on := 9, ground := Go.Ground.data }], guard := none } : Go.Oper)) (v := .pointer (some ⟨J, 0, none⟩)) rfl (by kernel_rfl) (by kernel_rfl) (by kernel_rfl) (fun _ _ _ h => h) (Or.inl ⟨by rfl, ?_⟩) (by assumption) ?_
  · intro wx hSw
    try dsimp only at hSw
    obtain ⟨u0, u1, u2⟩ := hSw
    go_simp
    try with_reducible rfl
  try simp only [Act.put, List.setIfInBounds_toArray, List.set_cons_zero, List.set_cons_succ]
  refine wpAnyH_take (i := 11) (oi := ({ dst := some 25, op := Go.Op.fieldAddr 72 (Go.Operand.tmp 24) 1, type := 0, pos := "look.go:50", after := #[{ on := 10, ground := Go.Ground.data }], guard := none } : Go.Oper)) (v := .pointer (some ⟨J, 1, none⟩)) rfl (by kernel_rfl) (by kernel_rfl) (by kernel_rfl) (fun _ _ _ h => h) (Or.inl ⟨by rfl, ?_⟩) (by assumption) ?_
  · intro wx hSw
    try dsimp only at hSw
    obtain ⟨u0, u1, u2⟩ := hSw
    go_simp
    try with_reducible rfl
  try simp only [Act.put, List.setIfInBounds_toArray, List.set_cons_zero, List.set_cons_succ]
  refine wpAnyH_take (i := 12) (oi := ({ dst := some 26, op := Go.Op.load 3 (Go.Operand.tmp 25), type := 3, pos := "look.go:50", after := #[{ on := 11, ground := Go.Ground.data }], guard := none } : Go.Oper)) (v := .int .i64 now) rfl (by kernel_rfl) (by kernel_rfl) (by kernel_rfl) (fun _ _ _ h => h) (Or.inl ⟨by rfl, ?_⟩) (by assumption) ?_
  · intro wx hSw
    try dsimp only at hSw
    obtain ⟨u0, u1, u2⟩ := hSw
    go_simp
    try with_reducible rfl
  try simp only [Act.put, List.setIfInBounds_toArray, List.set_cons_zero, List.set_cons_succ]
  refine wpAnyH_take (i := 13) (oi := ({ dst := some 27, op := Go.Op.makeFunc (Go.Fn.method "sternpost/sock.leave") #[Go.Operand.tmp 15] #[], type := 100, pos := "look.go:50", after := #[{ on := 1, ground := Go.Ground.data }], guard := none } : Go.Oper)) (v := lvF p) rfl (by kernel_rfl) (by kernel_rfl) (by kernel_rfl) (fun _ _ _ h => h) (Or.inl ⟨by rfl, ?_⟩) (by assumption) ?_
  · intro wx hSw
    try dsimp only at hSw
    obtain ⟨u0, u1, u2⟩ := hSw
    go_simp
    try with_reducible rfl
  try simp only [Act.put, List.setIfInBounds_toArray, List.set_cons_zero, List.set_cons_succ]
  refine wpAnyH_take (i := 14) (oi := ({ dst := some 28, op := Go.Op.nilCheck (Go.Operand.tmp 27), type := 100, pos := "look.go:50", after := #[{ on := 13, ground := Go.Ground.data }], guard := none } : Go.Oper)) (v := lvF p) rfl (by kernel_rfl) (by kernel_rfl) (by kernel_rfl) (fun _ _ _ h => h) (Or.inl ⟨by rfl, ?_⟩) (by assumption) ?_
  · intro wx hSw
    try dsimp only at hSw
    obtain ⟨u0, u1, u2⟩ := hSw
    go_simp
    try with_reducible rfl
  try simp only [Act.put, List.setIfInBounds_toArray, List.set_cons_zero, List.set_cons_succ]
  refine wpAnyH_take (i := 15) (oi := ({ dst := some 29, op := Go.Op.move (Go.Operand.tmp 15), type := 50, pos := "look.go:50", after := #[{ on := 1, ground := Go.Ground.data }, { on := 13, ground := Go.Ground.data }, { on := 14, ground := Go.Ground.data }], guard := none } : Go.Oper)) (v := lV p) rfl (by kernel_rfl) (by kernel_rfl) (by kernel_rfl) (fun _ _ _ h => h) (Or.inl ⟨by rfl, ?_⟩) (by assumption) ?_
  · intro wx hSw
    try dsimp only at hSw
    obtain ⟨u0, u1, u2⟩ := hSw
    go_simp
    try with_reducible rfl
  try simp only [Act.put, List.setIfInBounds_toArray, List.set_cons_zero, List.set_cons_succ]
  refine wpAnyH_ready (rs := [16]) (by kernel_rfl) (by simp) ?_
  refine AllReadyH.cons (o := ({ dst := some 30, op := Go.Op.call { callee := Go.Callee.invoke (Go.Operand.tmp 29) "sternpost/sock.leave", args := #[Go.Operand.tmp 22, Go.Operand.tmp 26], argTypes := #[46, 3] }, type := 37, pos := "look.go:50", after := #[{ on := 15, ground := Go.Ground.data }, { on := 8, ground := Go.Ground.data }, { on := 12, ground := Go.Ground.data }], guard := none } : Go.Oper)) rfl (fun K hK => ?_) AllReadyH.nil
  go_simp
  refine (leave_any (h.t.later hdr) h0 h1 hl).mono ?_
  rintro e x2 ⟨rfl, t2, ht2⟩
  have J2 := (hJ.later hdr).turn ht2 (fun e => by rcases e with e | e; exact k2 e; exact k3 e)
  have W2 := (hW.later hdr).turn ht2 (fun e => by rcases e with e | e; exact w2 e; exact w3 e)
  have R2 := (hR.later hdr).turn ht2 (fun e => by rcases e with e | e; exact hr1.2.1 e; exact hr1.2.2.1 e)
  have b2 := (h.b.later hdr).turn ht2 (fun e => by rcases e with e | e; exact h.n1 e; exact h.n2 e)
  have ht2 : Turn (fun k => k = B ∨ k = T ∨ k = L ∨ k = J) x1 x2 := (Turn.of_below hdr).trans (ht2.mono fun k e => by rcases e with e | e; exact Or.inr (Or.inl e); exact Or.inr (Or.inr (Or.inl e)))
  refine hK.out _ _ ⟨(J2.2 0 _ rfl).1, (J2.2 1 _ rfl).1, b2.c0⟩ (fun hHeld => ?_)
  clear hK K
  try simp only [Act.put, List.setIfInBounds_toArray, List.set_cons_zero, List.set_cons_succ]
  refine wpAnyH_ready (rs := [17]) (by kernel_rfl) (by simp) ?_
  refine AllReadyH.cons (o := ({ dst := some 31, op := Go.Op.call { callee := Go.Callee.value (Go.Operand.func 34), args := #[Go.Operand.tmp 14, Go.Operand.tmp 30], argTypes := #[70, 37] }, type := 0, pos := "look.go:50", after := #[{ on := 0, ground := Go.Ground.data }, { on := 16, ground := Go.Ground.data }, { on := 16, ground := Go.Ground.chain }], guard := none } : Go.Oper)) rfl (fun K hK => ?_) AllReadyH.nil
  go_simp
  refine (send_nil J2).mono ?_
  rintro e x3 ⟨rfl, J3, ht3⟩
  have W3 := W2.turn ht3 w4
  have R3 := R2.turn ht3 hr1.2.2.2
  have b3 := b2.turn ht3 (fun e => k1 e.symm)
  have t3 := t2.turn ht3 (fun e => k2 e.symm) (fun e => k3 e.symm) (fun e => k4 e.symm)
  have ht3 : Turn (fun k => k = B ∨ k = T ∨ k = L ∨ k = J) x1 x3 := ht2.trans (ht3.mono fun k e => Or.inr (Or.inr (Or.inr e)))
  refine hK.out _ _ ⟨(J3.2 0 _ rfl).1, (J3.2 1 _ rfl).1, b3.c0⟩ (fun hHeld => ?_)
  clear hK K
  try simp only [Act.put, List.setIfInBounds_toArray, List.set_cons_zero, List.set_cons_succ]
  refine wpAnyH_done (by kernel_rfl) ?_ _
  have n1 := h.n1
  have n2 := h.n2
  have n3 := h.n3
  clear hHeld q0 q1 q2 hdr hna hme J2 W2 R2 b2 ht2 t2 h hJ hW hR
  have hi0 : (0 : Int) ≤ (i : Int) := by omega
  have hi1 : (i : Int) < 64 := by omega
  go_upto_region 4 with fail
  have hdr : Below x3.heap.size x3 x3.drew := (Below.refl _ _).drew
  have b4 := b3.later hdr
  have q0 : x3.drew.cell? ⟨J, 0, none⟩ = some (PB B) := (J3.2 0 _ rfl).1
  have q1 : x3.drew.cell? ⟨W, 2, none⟩ = some (.int .i64 (i : Int)) := (W3.2 2 _ rfl).1
  have g1 : x3.drew.cell? ⟨B, 1 + i, none⟩ = some (sV (s i)) := (b4.cs i hi).1
  have g2 : x3.drew.frozen? ⟨B, 1 + i, none⟩ = false := (b4.cs i hi).2
  refine wp_region_held_drew (S := (fun X => X.cell? ⟨J, 0, none⟩ = some (PB B) ∧ X.cell? ⟨W, 2, none⟩ = some (.int .i64 (i : Int)))) (by kernel_rfl) ?_ (fun hHeld => ?_)
  · first | exact ⟨q0, q1⟩ | assumption
  refine wpAnyH_take (i := 0) (oi := ({ dst := some 32, op := Go.Op.move (Go.Operand.tmp 0), type := 70, pos := "look.go:51", after := #[], guard := none } : Go.Oper)) (v := PB J) rfl (by kernel_rfl) (by kernel_rfl) (by kernel_rfl) (fun _ _ _ h => h) (Or.inl ⟨by rfl, ?_⟩) (by assumption) ?_
  · intro wx hSw
    try dsimp only at hSw
    obtain ⟨u0, u1⟩ := hSw
    go_simp
    try with_reducible rfl
  try simp only [Act.put, List.setIfInBounds_toArray, List.set_cons_zero, List.set_cons_succ]
  refine wpAnyH_take (i := 1) (oi := ({ dst := some 33, op := Go.Op.nilCheck (Go.Operand.tmp 32), type := 0, pos := "look.go:51", after := #[{ on := 0, ground := Go.Ground.data }], guard := none } : Go.Oper)) (v := PB J) rfl (by kernel_rfl) (by kernel_rfl) (by kernel_rfl) (fun _ _ _ h => h) (Or.inl ⟨by rfl, ?_⟩) (by assumption) ?_
  · intro wx hSw
    try dsimp only at hSw
    obtain ⟨u0, u1⟩ := hSw
    go_simp
    try with_reducible rfl
  try simp only [Act.put, List.setIfInBounds_toArray, List.set_cons_zero, List.set_cons_succ]
  refine wpAnyH_take (i := 2) (oi := ({ dst := some 34, op := Go.Op.fieldAddr 72 (Go.Operand.tmp 33) 0, type := 0, pos := "look.go:51", after := #[{ on := 1, ground := Go.Ground.data }], guard := none } : Go.Oper)) (v := .pointer (some ⟨J, 0, none⟩)) rfl (by kernel_rfl) (by kernel_rfl) (by kernel_rfl) (fun _ _ _ h => h) (Or.inl ⟨by rfl, ?_⟩) (by assumption) ?_
  · intro wx hSw
    try dsimp only at hSw
    obtain ⟨u0, u1⟩ := hSw
    go_simp
    try with_reducible rfl
  try simp only [Act.put, List.setIfInBounds_toArray, List.set_cons_zero, List.set_cons_succ]
  refine wpAnyH_take (i := 3) (oi := ({ dst := some 35, op := Go.Op.load 23 (Go.Operand.tmp 34), type := 23, pos := "look.go:51", after := #[{ on := 2, ground := Go.Ground.data }], guard := none } : Go.Oper)) (v := PB B) rfl (by kernel_rfl) (by kernel_rfl) (by kernel_rfl) (fun _ _ _ h => h) (Or.inl ⟨by rfl, ?_⟩) (by assumption) ?_
  · intro wx hSw
    try dsimp only at hSw
    obtain ⟨u0, u1⟩ := hSw
    go_simp
    try with_reducible rfl
  try simp only [Act.put, List.setIfInBounds_toArray, List.set_cons_zero, List.set_cons_succ]
  refine wpAnyH_take (i := 4) (oi := ({ dst := some 36, op := Go.Op.move (Go.Operand.tmp 2), type := 56, pos := "look.go:51", after := #[], guard := none } : Go.Oper)) (v := PB W) rfl (by kernel_rfl) (by kernel_rfl) (by kernel_rfl) (fun _ _ _ h => h) (Or.inl ⟨by rfl, ?_⟩) (by assumption) ?_
  · intro wx hSw
    try dsimp only at hSw
    obtain ⟨u0, u1⟩ := hSw
    go_simp
    try with_reducible rfl
  try simp only [Act.put, List.setIfInBounds_toArray, List.set_cons_zero, List.set_cons_succ]
  refine wpAnyH_take (i := 5) (oi := ({ dst := some 37, op := Go.Op.nilCheck (Go.Operand.tmp 36), type := 0, pos := "look.go:51", after := #[{ on := 4, ground := Go.Ground.data }], guard := none } : Go.Oper)) (v := PB W) rfl (by kernel_rfl) (by kernel_rfl) (by kernel_rfl) (fun _ _ _ h => h) (Or.inl ⟨by rfl, ?_⟩) (by assumption) ?_
  · intro wx hSw
    try dsimp only at hSw
    obtain ⟨u0, u1⟩ := hSw
    go_simp
    try with_reducible rfl
  try simp only [Act.put, List.setIfInBounds_toArray, List.set_cons_zero, List.set_cons_succ]
  refine wpAnyH_take (i := 6) (oi := ({ dst := some 38, op := Go.Op.fieldAddr 60 (Go.Operand.tmp 37) 0, type := 0, pos := "look.go:51", after := #[{ on := 5, ground := Go.Ground.data }], guard := none } : Go.Oper)) (v := .pointer (some ⟨W, 0, none⟩)) rfl (by kernel_rfl) (by kernel_rfl) (by kernel_rfl) (fun _ _ _ h => h) (Or.inl ⟨by rfl, ?_⟩) (by assumption) ?_
  · intro wx hSw
    try dsimp only at hSw
    obtain ⟨u0, u1⟩ := hSw
    go_simp
    try with_reducible rfl
  try simp only [Act.put, List.setIfInBounds_toArray, List.set_cons_zero, List.set_cons_succ]
  refine wpAnyH_take (i := 7) (oi := ({ dst := some 39, op := Go.Op.fieldAddr 41 (Go.Operand.tmp 38) 2, type := 0, pos := "look.go:51", after := #[{ on := 6, ground := Go.Ground.data }], guard := none } : Go.Oper)) (v := .pointer (some ⟨W, 2, none⟩)) rfl (by kernel_rfl) (by kernel_rfl) (by kernel_rfl) (fun _ _ _ h => h) (Or.inl ⟨by rfl, ?_⟩) (by assumption) ?_
  · intro wx hSw
    try dsimp only at hSw
    obtain ⟨u0, u1⟩ := hSw
    go_simp
    try with_reducible rfl
  try simp only [Act.put, List.setIfInBounds_toArray, List.set_cons_zero, List.set_cons_succ]
  refine wpAnyH_take (i := 8) (oi := ({ dst := some 40, op := Go.Op.load 3 (Go.Operand.tmp 39), type := 3, pos := "look.go:51", after := #[{ on := 7, ground := Go.Ground.data }], guard := none } : Go.Oper)) (v := .int .i64 (i : Int)) rfl (by kernel_rfl) (by kernel_rfl) (by kernel_rfl) (fun _ _ _ h => h) (Or.inl ⟨by rfl, ?_⟩) (by assumption) ?_
  · intro wx hSw
    try dsimp only at hSw
    obtain ⟨u0, u1⟩ := hSw
    go_simp
    try with_reducible rfl
  try simp only [Act.put, List.setIfInBounds_toArray, List.set_cons_zero, List.set_cons_succ]
  refine wpAnyH_take (i := 9) (oi := ({ dst := some 41, op := Go.Op.nilCheck (Go.Operand.tmp 35), type := 0, pos := "look.go:51", after := #[{ on := 3, ground := Go.Ground.data }], guard := none } : Go.Oper)) (v := PB B) rfl (by kernel_rfl) (by kernel_rfl) (by kernel_rfl) (fun _ _ _ h => h) (Or.inl ⟨by rfl, ?_⟩) (by assumption) ?_
  · intro wx hSw
    try dsimp only at hSw
    obtain ⟨u0, u1⟩ := hSw
    go_simp
    try with_reducible rfl
  try simp only [Act.put, List.setIfInBounds_toArray, List.set_cons_zero, List.set_cons_succ]
  refine wpAnyH_take (i := 10) (oi := ({ dst := some 42, op := Go.Op.fieldAddr 54 (Go.Operand.tmp 41) 1, type := 0, pos := "look.go:51", after := #[{ on := 9, ground := Go.Ground.data }], guard := none } : Go.Oper)) (v := .pointer (some ⟨B, 1, none⟩)) rfl (by kernel_rfl) (by kernel_rfl) (by kernel_rfl) (fun _ _ _ h => h) (Or.inl ⟨by rfl, ?_⟩) (by assumption) ?_
  · intro wx hSw
    try dsimp only at hSw
    obtain ⟨u0, u1⟩ := hSw
    go_simp
    try with_reducible rfl
  try simp only [Act.put, List.setIfInBounds_toArray, List.set_cons_zero, List.set_cons_succ]
  refine wpAnyH_take (i := 11) (oi := ({ dst := some 43, op := Go.Op.indexAddr 51 (Go.Operand.tmp 42) (Go.Operand.tmp 40), type := 0, pos := "look.go:51", after := #[{ on := 10, ground := Go.Ground.data }, { on := 8, ground := Go.Ground.data }, { on := 0, ground := Go.Ground.phase }, { on := 1, ground := Go.Ground.phase }, { on := 2, ground := Go.Ground.phase }, { on := 3, ground := Go.Ground.phase }, { on := 4, ground := Go.Ground.phase }, { on := 5, ground := Go.Ground.phase }, { on := 6, ground := Go.Ground.phase }, { on := 7, ground := Go.Ground.phase }, { on := 8, ground := Go.Ground.phase }], guard := none } : Go.Oper)) (v := .pointer (some ⟨B, 1 + i, none⟩)) rfl (by kernel_rfl) (by kernel_rfl) (by kernel_rfl) (fun _ _ _ h => h) (Or.inl ⟨by rfl, ?_⟩) (by assumption) ?_
  · intro wx hSw
    try dsimp only at hSw
    obtain ⟨u0, u1⟩ := hSw
    go_simp
    try with_reducible rfl
  try simp only [Act.put, List.setIfInBounds_toArray, List.set_cons_zero, List.set_cons_succ]
  refine wpAnyH_ready (rs := [12]) (by kernel_rfl) (by simp) ?_
  refine AllReadyH.cons (o := ({ dst := none, op := Go.Op.store 50 (Go.Operand.tmp 43) (Go.Operand.const Go.Value.nilIface), type := 0, pos := "look.go:51", after := #[{ on := 11, ground := Go.Ground.data }, { on := 0, ground := Go.Ground.phase }, { on := 1, ground := Go.Ground.phase }, { on := 2, ground := Go.Ground.phase }, { on := 3, ground := Go.Ground.phase }, { on := 4, ground := Go.Ground.phase }, { on := 5, ground := Go.Ground.phase }, { on := 6, ground := Go.Ground.phase }, { on := 7, ground := Go.Ground.phase }, { on := 8, ground := Go.Ground.phase }], guard := none } : Go.Oper)) rfl (fun K hK => ?_) AllReadyH.nil
  go_simp
  refine hK.out _ _ ⟨?_, ?_⟩ (fun hHeld => ?_)
  · exact (World.cell?_setCell_other _ _ _ _ (by intro q; first | exact k1 (congrArg Addr.block q) | exact k1 (congrArg Addr.block q).symm)).trans q0
  · exact (World.cell?_setCell_other _ _ _ _ (by intro q; first | exact w1 (congrArg Addr.block q) | exact w1 (congrArg Addr.block q).symm)).trans q1
  clear hK K
  try simp only [Act.put, List.setIfInBounds_toArray, List.set_cons_zero, List.set_cons_succ]
  refine wpAnyH_done (by kernel_rfl) ?_ _
  clear hHeld q0 q1 g1 g2 hdr
  have ht4 := (ht3.later (Below.refl x3.heap.size x3).drew).trans ((turn_set x3.drew B (1 + i) .nilIface).mono fun k e => Or.inl e)
  have b5 := b4.setS i hi 0
  rw [sV_zero] at b5
  have hts := turn_set x3.drew B (1 + i) .nilIface
  have e5 : (x3.setCell ⟨B, 1 + i, none⟩ .nilIface).drew = x3.drew.setCell ⟨B, 1 + i, none⟩ .nilIface := rfl
  have hd3 : Below x3.heap.size x3 x3.drew := (Below.refl _ _).drew
  have J5 := (J3.later hd3).turn hts k1
  have W5 := (W3.later hd3).turn hts w1
  have R5 := (R3.later hd3).turn hts hr1.1
  have t5 := (t3.later hd3).turn hts (fun e => n1 e.symm) (fun e => n2 e.symm) (fun e => n3 e.symm)
  rw [← e5] at ht4 b5 J5 W5 R5 t5
  clear e5 hts hd3 b4 b3 J3 W3 R3 t3 ht3
  generalize (x3.setCell ⟨B, 1 + i, none⟩ .nilIface).drew = x4 at *
  obtain ⟨r0, r1, r2, r3, r4, s0, s1, s2, s3, s4⟩ := R5.five
  obtain ⟨R6, tp6⟩ := R5.put5 (.int .i64 0) (.int .i64 0) (.int .i64 0) (.int .i64 0) (.string ⟨#[]⟩)
  have fin : SK (put5 x4 R (.int .i64 0) (.int .i64 0) (.int .i64 0) (.int .i64 0) (.string ⟨#[]⟩)) B T L M (upS s i 0) v (vdel l p) ∧ _ ∧ _ ∧ Turn (fun k => k = B ∨ k = T ∨ k = L ∨ k = J) w (put5 x4 R (.int .i64 0) (.int .i64 0) (.int .i64 0) (.int .i64 0) (.string ⟨#[]⟩)) :=
    ⟨⟨b5.turn tp6 (fun e => hr1.1 e.symm), t5.turn tp6 (fun e => hr1.2.1 e.symm) (fun e => hr1.2.2.1 e.symm) hrm, n1, n2, n3⟩, J5.turn tp6 (fun e => hr1.2.2.2 e.symm), W5.turn tp6 hrw, (ht1.trans ht4).step tp6 (fun j e => Or.inr (by omega))⟩
  have FIN : Hid _ := fin
  have R7 : Hid _ := R6
  clear fin R6 tp6 b5 t5 J5 W5 R5 ht4 ht1
  go_wp2
  refine bodyPost_ret (v := doneV 0 0 0) (ret_done (i := 6) Tryz.results25 R7.out rfl rfl) rfl ?_
  exact ⟨rfl, FIN.out⟩
end Go.Proofs.YthbpapgfjmpgaaaGreat
