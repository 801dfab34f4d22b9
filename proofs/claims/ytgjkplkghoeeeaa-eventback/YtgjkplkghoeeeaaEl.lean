/- EventLogs: a log and the document's, side by side. -/
import Derived.Test.YtgjkplkghoeeeaaEk
import Derived.Test.YtgjkplkghoeeeaaFlat
namespace Go.Proofs.Ytgjkplkghoeeeaa
open Go.RowKit Go.Maps
set_option maxRecDepth 100000
set_option linter.unusedVariables false
set_option linter.unusedSimpArgs false


/-- Events that came in. -/
def ArgE (w : World) (a : Option Addr) (n : Nat) : Prop := n = 0 ∨ ∃ ab off, a = some ⟨ab, off, none⟩ ∧ ∀ i, i < n → ∃ (k t : Int) (d : ByteArray), w.cell? ⟨ab, off + i * 3, none⟩ = some (.int .i64 k) ∧ w.cell? ⟨ab, off + i * 3 + 1, none⟩ = some (.int .i64 t) ∧ w.cell? ⟨ab, off + i * 3 + 2, none⟩ = some (.string d) ∧ d.size ≤ 140737488351232
theorem argE_of {w : World} {a : Option Addr} {n : Nat} (h : Flat.Rows w a n 3 [.i, .i, .s]) : ArgE w a n := by
  rcases h with h | ⟨b, off, ha, h⟩
  · exact Or.inl h
  · refine Or.inr ⟨b, off, ha, fun i hi => ?_⟩
    obtain ⟨cs, ho, hc⟩ := h i hi
    have hl : cs.length = 3 := ho.1
    match cs, hl with
    | [v0, v1, v2], _ =>
    obtain ⟨kd, rfl, -⟩ := ho.2 0 .i _ rfl rfl
    obtain ⟨nn, rfl, -⟩ := ho.2 1 .i _ rfl rfl
    obtain ⟨s, rfl, hs⟩ := ho.2 2 .s _ rfl rfl
    have y0 := hc 0 _ rfl
    rw [Nat.add_zero] at y0
    exact ⟨kd, nn, s, y0, hc 1 _ rfl, hc 2 _ rfl, hs⟩
theorem LG.lt {w : World} {b : Nat} {v : Value} {l : List Ev} (h : LG w b v l) {k : Nat} (hk : v.ownBlock = some k) : b < k ∧ k < w.heap.size := ⟨h.eo.ge k hk, h.eo.lt hk⟩
/-- Both logs hold the same; nothing below has turned. -/
structure TL (w0 wr : World) (xb b1 b2 : Nat) (s0 s1 : Int) (v1 v2 : Value) (xs : List Ev) (i : Nat) : Prop where
  h1 : LG wr b1 v1 xs
  h2 : LG wr b2 v2 xs
  may : ∀ x ∈ xs, mayE x = true
  len : xs.length ≤ i
  ne : ∀ k, v1.ownBlock = some k → k ≠ b2 ∧ v2.ownBlock ≠ some k
  x1 : w0.heap.size ≤ xb
  x2 : xb < b1
  x3 : b1 < b2
  hp : At wr xb #[.int .i64 s0, .int .i64 s1]
  bel : Below w0.heap.size w0 wr
theorem TL.later {w0 wr w' : World} {xb b1 b2 : Nat} {s0 s1 : Int} {v1 v2 : Value} {xs : List Ev} {i : Nat} (h : TL w0 wr xb b1 b2 s0 s1 v1 v2 xs i) (hb : Below wr.heap.size wr w') : TL w0 w' xb b1 b2 s0 s1 v1 v2 xs i :=
  ⟨h.h1.later hb, h.h2.later hb, h.may, h.len, h.ne, h.x1, h.x2, h.x3, h.hp.later hb, h.bel.trans (hb.mono h.bel.size)⟩
theorem TL.up {w0 wr : World} {xb b1 b2 : Nat} {s0 s1 : Int} {v1 v2 : Value} {xs : List Ev} {i : Nat} (h : TL w0 wr xb b1 b2 s0 s1 v1 v2 xs i) : TL w0 wr xb b1 b2 s0 s1 v1 v2 xs (i + 1) :=
  ⟨h.h1, h.h2, h.may, Nat.le_succ_of_le h.len, h.ne, h.x1, h.x2, h.x3, h.hp, h.bel⟩
/-- The program's log has one more. -/
structure TM (w0 wr : World) (xb b1 b2 : Nat) (s0 s1 : Int) (v1 v2 : Value) (xs : List Ev) (x : Ev) : Prop where
  h1 : LG wr b1 v1 (xs ++ [x])
  h2 : LG wr b2 v2 xs
  ne : ∀ k, v1.ownBlock = some k → k ≠ b2 ∧ v2.ownBlock ≠ some k
  hp : At wr xb #[.int .i64 s0, .int .i64 s1]
  bel : Below w0.heap.size w0 wr
theorem TL.one {w0 wr w' : World} {xb b1 b2 : Nat} {s0 s1 : Int} {v1 v2 v' : Value} {xs : List Ev} {i : Nat} {x : Ev} (h : TL w0 wr xb b1 b2 s0 s1 v1 v2 xs i) (hL : LG w' b1 v' (xs ++ [x])) (ht : Turn (fun j => j = b1 ∨ v1.ownBlock = some j) wr w') (hp : v'.ownBlock = v1.ownBlock ∨ ∃ g, v'.ownBlock = some g ∧ wr.heap.size ≤ g) : TM w0 w' xb b1 b2 s0 s1 v' v2 xs x := by
  have q1 := h.x1
  have q2 := h.x2
  have q3 := h.x3
  have hb2 := h.h2.at_.1
  refine ⟨hL, h.h2.turn ht ?_ ?_, ?_, h.hp.turn ht ?_, h.bel.trans (ht.below h.bel.size ?_)⟩
  · rintro (e | e)
    · omega
    · exact (h.ne _ e).1 rfl
  · rintro k hk (e | e)
    · have := (h.h2.lt hk).1; omega
    · exact (h.ne _ e).2 hk
  · intro k hk
    rcases hp with e | ⟨g, e, hg⟩
    · exact h.ne k (e ▸ hk)
    · rw [e] at hk
      injection hk with hk
      subst hk
      refine ⟨by omega, fun e2 => ?_⟩
      have := (h.h2.lt e2).2
      omega
  · rintro (e | e)
    · omega
    · have := (h.h1.lt e).1; omega
  · rintro k hk (e | e)
    · omega
    · have := (h.h1.lt e).1; omega
theorem TL.two {w0 wr w1 w' : World} {xb b1 b2 : Nat} {s0 s1 : Int} {v0 v1 v2 v' : Value} {xs : List Ev} {i : Nat} {x : Ev} (h : TL w0 wr xb b1 b2 s0 s1 v0 v2 xs i) (hm : mayE x = true) (k : TM w0 w1 xb b1 b2 s0 s1 v1 v2 xs x) (hA : At w' b2 #[v']) (hE : EO w' w1.heap.size v' (xs ++ [x])) (ht : Turn (fun j => j = b2) w1 w') : TL w0 w' xb b1 b2 s0 s1 v1 v' (xs ++ [x]) (i + 1) := by
  have q1 := h.x1
  have q2 := h.x2
  have q3 := h.x3
  have hb2 := k.h2.at_.1
  refine ⟨k.h1.turn ht ?_ ?_, ⟨hA, hE.low hb2⟩, ?_, ?_, ?_, q1, q2, q3, k.hp.turn ht ?_, k.bel.trans (ht.below k.bel.size ?_)⟩
  · intro e; omega
  · intro j hj e
    exact (k.ne j hj).1 e
  · intro y hy
    rcases List.mem_append.1 hy with hy | hy
    · exact h.may y hy
    · rw [List.mem_singleton.1 hy]; exact hm
  · have := h.len
    rw [List.length_append]
    simp
    omega
  · intro j hj
    refine ⟨(k.ne j hj).1, fun e => ?_⟩
    have := hE.ge j e
    have := (k.h1.lt hj).2
    omega
  · intro e; omega
  · intro j hj e; omega
set_option maxHeartbeats 8000000 in
theorem logs_any (a : Option Addr) (n cap : Nat) (fr s0 s1 : Int) (w : World) (hr : Flat.Rows w a n 3 [.i, .i, .s]) (hz : n ≤ 140737488351232) (e0 : (Lit.int .i64 s0).wf = true) (e1 : (Lit.int .i64 s1).wf = true) :
    Calls Try.prog 4 #[.slice a n cap, .int .i64 fr, .agg #[.int .i64 s0, .int .i64 s1]] w fun e w' => e = .returned (.bool true) ∧ Below w.heap.size w w' := by
  have HA : Hid (ArgE w a n) := argE_of hr
  have E0 : Hid ((Lit.int .i64 s0).wf = true) := e0
  have E1 : Hid ((Lit.int .i64 s1).wf = true) := e1
  have hp := At.box w #[.int .i64 s0, .int .i64 s1] 36
  have hl := bel1 w (.cells #[.int .i64 s0, .int .i64 s1] 36)
  have hs : w.heap.size < (w.alloc (.cells #[.int .i64 s0, .int .i64 s1] 36)).heap.size := by simp
  clear hr e0 e1
  go_enter Try.func4, Try.ntmps4
  go_wp2_with fail
  refine (new_any _).mono ?_
  rintro e w1 ⟨b1, rfl, hb1, h1, hbb⟩
  have hp := hp.later hbb
  have hl := bt hl hbb
  have hs1 := hbb.size
  clear hbb
  have h2 := LG.fresh w1 41
  have hT : TL w (w1.alloc (.cells #[.slice none 0 0] 41)) w.heap.size b1 w1.heap.size s0 s1 (.slice none 0 0) (.slice none 0 0) [] 0 :=
    ⟨h1.later (bel1 w1 _), h2, (fun x hx => by cases hx), Nat.le_refl _, (fun k hk => by cases hk), Nat.le_refl _, by omega, h1.at_.1, hp.later (bel1 w1 _), bt hl (bel1 w1 _)⟩
  have HT : Hid _ := hT
  clear h1 h2 hp hl hT hb1
  go_wp2_with fail
  refine (works_any _).mono ?_
  rintro e w2 ⟨rfl, hb2⟩
  have HT2 : Hid (TL w w2 w.heap.size b1 w1.heap.size s0 s1 (.slice none 0 0) (.slice none 0 0) [] 0) := TL.later HT hb2
  clear HT hb2
  generalize w1.heap.size = b2 at *
  obtain ⟨xb, hxb⟩ : ∃ xb, w.heap.size = xb := ⟨_, rfl⟩
  have HT3 : Hid (TL w w2 xb b1 b2 s0 s1 (.slice none 0 0) (.slice none 0 0) [] 0) := by rw [← hxb]; exact HT2
  clear HT2
  have HXB : Hid (w.heap.size = xb) := hxb
  rw [hxb]
  clear hxb hs hs1
  go_wp2
  go_loopw [9] (fun c wr => ∃ (i : Nat) (v1 v2 : Value) (xs : List Ev), i ≤ n ∧ i ≤ 100 ∧ c = .int .i64 (i : Int) ∧ TL w wr xb b1 b2 s0 s1 v1 v2 xs i) (fun c _ => n - (intOf c).toNat)
  case atStart => exact ⟨0, _, _, _, Nat.zero_le _, Nat.zero_le _, rfl, HT3⟩
  case round =>
    clear HT3
    obtain ⟨i, v1, v2, xs, hin, hi, rfl, hT⟩ := hrel
    by_cases hlt : i < n ∧ i < 100
    · obtain ⟨hin1, hi1⟩ := hlt
      obtain ⟨ab, off, rfl, hcell⟩ : ∃ ab off, a = some ⟨ab, off, none⟩ ∧ ∀ i, i < n → ∃ (k t : Int) (d : ByteArray), w.cell? ⟨ab, off + i * 3, none⟩ = some (.int .i64 k) ∧ w.cell? ⟨ab, off + i * 3 + 1, none⟩ = some (.int .i64 t) ∧ w.cell? ⟨ab, off + i * 3 + 2, none⟩ = some (.string d) ∧ d.size ≤ 140737488351232 := by
        rcases HA.out with h | h
        · omega
        · exact h
      obtain ⟨k, t, d, hc0, hc1, hc2, hd⟩ := hcell i hin1
      have hdm : d.size ≤ maxLen := by unfold maxLen; omega
      have hni : (i : Int) < (n : Int) := by omega
      have hi100 : (i : Int) < 100 := by omega
      have hlen : xs.length ≤ 1000000 := Nat.le_trans hT.len (by omega)
      have q0 := later hT.bel hc0
      have q1 := later hT.bel hc1
      have q2 := later hT.bel hc2
      clear hcell
      rcases Bool.eq_false_or_eq_true (mayE ⟨k, t, d⟩) with hm | hm
      · by_cases ht : t < nowE xs
        · go_wp2_with fail
          refine (add_old hT.h1 hdm hlen hm ht).mono ?_
          rintro e w3 ⟨rfl, hb3⟩
          have hT := hT.later hb3
          clear hb3 q0 q1 q2
          have q0 := later hT.bel hc0
          have q1 := later hT.bel hc1
          have q2 := later hT.bel hc2
          go_wp2_with fail
          refine (radd_old hT.h2 hdm hlen hm ht).mono ?_
          rintro e w4 ⟨rfl, hb4⟩
          have hT := (hT.later hb4).up
          clear hb4 q0 q1 q2 hc0 hc1 hc2 hm ht
          obtain ⟨o2, q2, hsh⟩ := hT.h2.eo.shape
          subst hsh
          have hTq := hT
          clear hT
          go_wp2
          refine wp_region_held_drew (S := (fun W => TL w W xb b1 b2 s0 s1 v1 (.slice o2 (xs).length q2) (xs) (i + 1))) (by kernel_rfl) ?_ (fun hHeld => ?_)
          · first | exact hTq.later (Below.refl _ _).drew | assumption
          refine wpAnyH_take (i := 0) (oi := ({ dst := some 59, op := Go.Op.move (Go.Operand.tmp 10), type := 3, pos := "law.go:58", after := #[], guard := none } : Go.Oper)) (v := .int .i64 (0)) rfl (by kernel_rfl) (by kernel_rfl) (by kernel_rfl) (fun _ _ _ h => h) (Or.inl ⟨by rfl, ?_⟩) (by assumption) ?_
          · intro wx hSw
            try dsimp only at hSw
            have u0 := hSw.h2.at_.one.1
            go_simp
            try with_reducible rfl
          try simp only [Act.put, List.setIfInBounds_toArray, List.set_cons_zero, List.set_cons_succ]
          refine wpAnyH_take (i := 1) (oi := ({ dst := some 60, op := Go.Op.move (Go.Operand.tmp 12), type := 3, pos := "law.go:58", after := #[], guard := none } : Go.Oper)) (v := .int .i64 (0)) rfl (by kernel_rfl) (by kernel_rfl) (by kernel_rfl) (fun _ _ _ h => h) (Or.inl ⟨by rfl, ?_⟩) (by assumption) ?_
          · intro wx hSw
            try dsimp only at hSw
            have u0 := hSw.h2.at_.one.1
            go_simp
            try with_reducible rfl
          try simp only [Act.put, List.setIfInBounds_toArray, List.set_cons_zero, List.set_cons_succ]
          refine wpAnyH_take (i := 2) (oi := ({ dst := some 61, op := Go.Op.binOp Go.BinOp.neq 3 (Go.Operand.tmp 59) (Go.Operand.tmp 60) 3, type := 4, pos := "law.go:58", after := #[{ on := 0, ground := Go.Ground.data }, { on := 1, ground := Go.Ground.data }], guard := none } : Go.Oper)) (v := .bool false) rfl (by kernel_rfl) (by kernel_rfl) (by kernel_rfl) (fun _ _ _ h => h) (Or.inl ⟨by rfl, ?_⟩) (by assumption) ?_
          · intro wx hSw
            try dsimp only at hSw
            have u0 := hSw.h2.at_.one.1
            go_simp
            try with_reducible rfl
          try simp only [Act.put, List.setIfInBounds_toArray, List.set_cons_zero, List.set_cons_succ]
          refine wpAnyH_take (i := 3) (oi := ({ dst := some 62, op := Go.Op.move (Go.Operand.tmp 61), type := 4, pos := "law.go:58", after := #[{ on := 2, ground := Go.Ground.data }], guard := none } : Go.Oper)) (v := .bool false) rfl (by kernel_rfl) (by kernel_rfl) (by kernel_rfl) (fun _ _ _ h => h) (Or.inl ⟨by rfl, ?_⟩) (by assumption) ?_
          · intro wx hSw
            try dsimp only at hSw
            have u0 := hSw.h2.at_.one.1
            go_simp
            try with_reducible rfl
          try simp only [Act.put, List.setIfInBounds_toArray, List.set_cons_zero, List.set_cons_succ]
          refine wpAnyH_take (i := 4) (oi := ({ dst := some 63, op := Go.Op.move (Go.Operand.tmp 11), type := 24, pos := "law.go:58", after := #[{ on := 3, ground := Go.Ground.guard }], guard := some (3, false) } : Go.Oper)) (v := .int .i64 1) rfl (by kernel_rfl) (by kernel_rfl) (by kernel_rfl) (fun _ _ _ h => h) (Or.inl ⟨by rfl, ?_⟩) (by assumption) ?_
          · intro wx hSw
            try dsimp only at hSw
            have u0 := hSw.h2.at_.one.1
            go_simp
            try with_reducible rfl
          try simp only [Act.put, List.setIfInBounds_toArray, List.set_cons_zero, List.set_cons_succ]
          refine wpAnyH_take (i := 5) (oi := ({ dst := some 64, op := Go.Op.move (Go.Operand.tmp 13), type := 24, pos := "law.go:58", after := #[{ on := 3, ground := Go.Ground.guard }], guard := some (3, false) } : Go.Oper)) (v := .int .i64 1) rfl (by kernel_rfl) (by kernel_rfl) (by kernel_rfl) (fun _ _ _ h => h) (Or.inl ⟨by rfl, ?_⟩) (by assumption) ?_
          · intro wx hSw
            try dsimp only at hSw
            have u0 := hSw.h2.at_.one.1
            go_simp
            try with_reducible rfl
          try simp only [Act.put, List.setIfInBounds_toArray, List.set_cons_zero, List.set_cons_succ]
          refine wpAnyH_take (i := 6) (oi := ({ dst := some 65, op := Go.Op.binOp Go.BinOp.neq 24 (Go.Operand.tmp 63) (Go.Operand.tmp 64) 24, type := 4, pos := "law.go:58", after := #[{ on := 4, ground := Go.Ground.data }, { on := 5, ground := Go.Ground.data }, { on := 3, ground := Go.Ground.guard }], guard := some (3, false) } : Go.Oper)) (v := .bool false) rfl (by kernel_rfl) (by kernel_rfl) (by kernel_rfl) (fun _ _ _ h => h) (Or.inl ⟨by rfl, ?_⟩) (by assumption) ?_
          · intro wx hSw
            try dsimp only at hSw
            have u0 := hSw.h2.at_.one.1
            go_simp
            try with_reducible rfl
          try simp only [Act.put, List.setIfInBounds_toArray, List.set_cons_zero, List.set_cons_succ]
          refine wpAnyH_take (i := 7) (oi := ({ dst := some 66, op := Go.Op.pick (Go.Operand.tmp 62) (Go.Operand.const (Go.Value.bool true)) (Go.Operand.tmp 65), type := 4, pos := "law.go:58", after := #[{ on := 3, ground := Go.Ground.data }, { on := 6, ground := Go.Ground.data }], guard := none } : Go.Oper)) (v := .bool false) rfl (by kernel_rfl) (by kernel_rfl) (by kernel_rfl) (fun _ _ _ h => h) (Or.inl ⟨by rfl, ?_⟩) (by assumption) ?_
          · intro wx hSw
            try dsimp only at hSw
            have u0 := hSw.h2.at_.one.1
            go_simp
            try with_reducible rfl
          try simp only [Act.put, List.setIfInBounds_toArray, List.set_cons_zero, List.set_cons_succ]
          refine wpAnyH_take (i := 8) (oi := ({ dst := some 67, op := Go.Op.move (Go.Operand.tmp 66), type := 4, pos := "law.go:58", after := #[{ on := 7, ground := Go.Ground.data }, { on := 3, ground := Go.Ground.chain }], guard := none } : Go.Oper)) (v := .bool false) rfl (by kernel_rfl) (by kernel_rfl) (by kernel_rfl) (fun _ _ _ h => h) (Or.inl ⟨by rfl, ?_⟩) (by assumption) ?_
          · intro wx hSw
            try dsimp only at hSw
            have u0 := hSw.h2.at_.one.1
            go_simp
            try with_reducible rfl
          try simp only [Act.put, List.setIfInBounds_toArray, List.set_cons_zero, List.set_cons_succ]
          refine wpAnyH_take (i := 9) (oi := ({ dst := some 68, op := Go.Op.move (Go.Operand.tmp 7), type := 37, pos := "law.go:58", after := #[{ on := 8, ground := Go.Ground.guard }], guard := some (8, false) } : Go.Oper)) (v := .pointer (some ⟨b1, 0, none⟩)) rfl (by kernel_rfl) (by kernel_rfl) (by kernel_rfl) (fun _ _ _ h => h) (Or.inl ⟨by rfl, ?_⟩) (by assumption) ?_
          · intro wx hSw
            try dsimp only at hSw
            have u0 := hSw.h2.at_.one.1
            go_simp
            try with_reducible rfl
          try simp only [Act.put, List.setIfInBounds_toArray, List.set_cons_zero, List.set_cons_succ]
          refine wpAnyH_take (i := 11) (oi := ({ dst := some 70, op := Go.Op.move (Go.Operand.tmp 8), type := 39, pos := "law.go:58", after := #[{ on := 8, ground := Go.Ground.guard }], guard := some (8, false) } : Go.Oper)) (v := .pointer (some ⟨b2, 0, none⟩)) rfl (by kernel_rfl) (by kernel_rfl) (by kernel_rfl) (fun _ _ _ h => h) (Or.inl ⟨by rfl, ?_⟩) (by assumption) ?_
          · intro wx hSw
            try dsimp only at hSw
            have u0 := hSw.h2.at_.one.1
            go_simp
            try with_reducible rfl
          try simp only [Act.put, List.setIfInBounds_toArray, List.set_cons_zero, List.set_cons_succ]
          refine wpAnyH_take (i := 12) (oi := ({ dst := some 71, op := Go.Op.nilCheck (Go.Operand.tmp 70), type := 0, pos := "law.go:58", after := #[{ on := 11, ground := Go.Ground.data }, { on := 8, ground := Go.Ground.guard }], guard := some (8, false) } : Go.Oper)) (v := .pointer (some ⟨b2, 0, none⟩)) rfl (by kernel_rfl) (by kernel_rfl) (by kernel_rfl) (fun _ _ _ h => h) (Or.inl ⟨by rfl, ?_⟩) (by assumption) ?_
          · intro wx hSw
            try dsimp only at hSw
            have u0 := hSw.h2.at_.one.1
            go_simp
            try with_reducible rfl
          try simp only [Act.put, List.setIfInBounds_toArray, List.set_cons_zero, List.set_cons_succ]
          refine wpAnyH_take (i := 13) (oi := ({ dst := some 72, op := Go.Op.fieldAddr 41 (Go.Operand.tmp 71) 0, type := 0, pos := "law.go:58", after := #[{ on := 12, ground := Go.Ground.data }, { on := 8, ground := Go.Ground.guard }], guard := some (8, false) } : Go.Oper)) (v := .pointer (some ⟨b2, 0, none⟩)) rfl (by kernel_rfl) (by kernel_rfl) (by kernel_rfl) (fun _ _ _ h => h) (Or.inl ⟨by rfl, ?_⟩) (by assumption) ?_
          · intro wx hSw
            try dsimp only at hSw
            have u0 := hSw.h2.at_.one.1
            go_simp
            try with_reducible rfl
          try simp only [Act.put, List.setIfInBounds_toArray, List.set_cons_zero, List.set_cons_succ]
          refine wpAnyH_take (i := 14) (oi := ({ dst := some 73, op := Go.Op.load 29 (Go.Operand.tmp 72), type := 29, pos := "law.go:58", after := #[{ on := 13, ground := Go.Ground.data }, { on := 8, ground := Go.Ground.guard }], guard := some (8, false) } : Go.Oper)) (v := .slice o2 (xs).length q2) rfl (by kernel_rfl) (by kernel_rfl) (by kernel_rfl) (fun _ _ _ h => h) (Or.inl ⟨by rfl, ?_⟩) (by assumption) ?_
          · intro wx hSw
            try dsimp only at hSw
            have u0 := hSw.h2.at_.one.1
            go_simp
            try with_reducible rfl
          try simp only [Act.put, List.setIfInBounds_toArray, List.set_cons_zero, List.set_cons_succ]
          refine wpAnyH_take (i := 15) (oi := ({ dst := some 74, op := Go.Op.call { callee := Go.Callee.builtin Go.Builtin.len, args := #[Go.Operand.tmp 73], argTypes := #[29] }, type := 3, pos := "law.go:58", after := #[{ on := 14, ground := Go.Ground.data }, { on := 8, ground := Go.Ground.guard }], guard := some (8, false) } : Go.Oper)) (v := .int .i64 ((xs).length : Int)) rfl (by kernel_rfl) (by kernel_rfl) (by kernel_rfl) (fun _ _ _ h => h) (Or.inl ⟨by rfl, ?_⟩) (by assumption) ?_
          · intro wx hSw
            try dsimp only at hSw
            have u0 := hSw.h2.at_.one.1
            go_simp
            try with_reducible rfl
          try simp only [Act.put, List.setIfInBounds_toArray, List.set_cons_zero, List.set_cons_succ]
          refine wpAnyH_ready (rs := [10]) (by kernel_rfl) (by simp) ?_
          refine AllReadyH.cons (o := ({ dst := some 69, op := Go.Op.call { callee := Go.Callee.value (Go.Operand.func 19), args := #[Go.Operand.tmp 68], argTypes := #[37] }, type := 3, pos := "law.go:58", after := #[{ on := 9, ground := Go.Ground.data }, { on := 8, ground := Go.Ground.chain }, { on := 8, ground := Go.Ground.guard }], guard := some (8, false) } : Go.Oper)) rfl (fun K hK => ?_) AllReadyH.nil
          go_simp
          refine (len_any hHeld.h1).mono ?_
          rintro e wk ⟨rfl, rfl⟩
          refine hK.out _ _ hHeld (fun hHeld => ?_)
          clear hK K
          try simp only [Act.put, List.setIfInBounds_toArray, List.set_cons_zero, List.set_cons_succ]
          refine wpAnyH_take (i := 16) (oi := ({ dst := some 75, op := Go.Op.binOp Go.BinOp.neq 3 (Go.Operand.tmp 69) (Go.Operand.tmp 74) 3, type := 4, pos := "law.go:58", after := #[{ on := 10, ground := Go.Ground.data }, { on := 15, ground := Go.Ground.data }, { on := 8, ground := Go.Ground.guard }], guard := some (8, false) } : Go.Oper)) (v := .bool false) rfl (by kernel_rfl) (by kernel_rfl) (by kernel_rfl) (fun _ _ _ h => h) (Or.inl ⟨by rfl, ?_⟩) (by assumption) ?_
          · intro wx hSw
            try dsimp only at hSw
            have u0 := hSw.h2.at_.one.1
            go_simp
            try with_reducible rfl
          try simp only [Act.put, List.setIfInBounds_toArray, List.set_cons_zero, List.set_cons_succ]
          refine wpAnyH_take (i := 17) (oi := ({ dst := some 76, op := Go.Op.pick (Go.Operand.tmp 67) (Go.Operand.const (Go.Value.bool true)) (Go.Operand.tmp 75), type := 4, pos := "law.go:58", after := #[{ on := 8, ground := Go.Ground.data }, { on := 16, ground := Go.Ground.data }], guard := none } : Go.Oper)) (v := .bool false) rfl (by kernel_rfl) (by kernel_rfl) (by kernel_rfl) (fun _ _ _ h => h) (Or.inl ⟨by rfl, ?_⟩) (by assumption) ?_
          · intro wx hSw
            try dsimp only at hSw
            have u0 := hSw.h2.at_.one.1
            go_simp
            try with_reducible rfl
          try simp only [Act.put, List.setIfInBounds_toArray, List.set_cons_zero, List.set_cons_succ]
          refine wpAnyH_take (i := 18) (oi := ({ dst := some 77, op := Go.Op.move (Go.Operand.tmp 76), type := 4, pos := "law.go:58", after := #[{ on := 17, ground := Go.Ground.data }, { on := 10, ground := Go.Ground.chain }], guard := none } : Go.Oper)) (v := .bool false) rfl (by kernel_rfl) (by kernel_rfl) (by kernel_rfl) (fun _ _ _ h => h) (Or.inl ⟨by rfl, ?_⟩) (by assumption) ?_
          · intro wx hSw
            try dsimp only at hSw
            have u0 := hSw.h2.at_.one.1
            go_simp
            try with_reducible rfl
          try simp only [Act.put, List.setIfInBounds_toArray, List.set_cons_zero, List.set_cons_succ]
          refine wpAnyH_take (i := 19) (oi := ({ dst := some 78, op := Go.Op.move (Go.Operand.tmp 7), type := 37, pos := "law.go:58", after := #[{ on := 18, ground := Go.Ground.guard }], guard := some (18, false) } : Go.Oper)) (v := .pointer (some ⟨b1, 0, none⟩)) rfl (by kernel_rfl) (by kernel_rfl) (by kernel_rfl) (fun _ _ _ h => h) (Or.inl ⟨by rfl, ?_⟩) (by assumption) ?_
          · intro wx hSw
            try dsimp only at hSw
            have u0 := hSw.h2.at_.one.1
            go_simp
            try with_reducible rfl
          try simp only [Act.put, List.setIfInBounds_toArray, List.set_cons_zero, List.set_cons_succ]
          refine wpAnyH_take (i := 21) (oi := ({ dst := some 80, op := Go.Op.move (Go.Operand.tmp 8), type := 39, pos := "law.go:58", after := #[{ on := 18, ground := Go.Ground.guard }], guard := some (18, false) } : Go.Oper)) (v := .pointer (some ⟨b2, 0, none⟩)) rfl (by kernel_rfl) (by kernel_rfl) (by kernel_rfl) (fun _ _ _ h => h) (Or.inl ⟨by rfl, ?_⟩) (by assumption) ?_
          · intro wx hSw
            try dsimp only at hSw
            have u0 := hSw.h2.at_.one.1
            go_simp
            try with_reducible rfl
          try simp only [Act.put, List.setIfInBounds_toArray, List.set_cons_zero, List.set_cons_succ]
          refine wpAnyH_ready (rs := [20]) (by kernel_rfl) (by simp) ?_
          refine AllReadyH.cons (o := ({ dst := some 79, op := Go.Op.call { callee := Go.Callee.value (Go.Operand.func 20), args := #[Go.Operand.tmp 78], argTypes := #[37] }, type := 3, pos := "law.go:58", after := #[{ on := 19, ground := Go.Ground.data }, { on := 18, ground := Go.Ground.chain }, { on := 18, ground := Go.Ground.guard }], guard := some (18, false) } : Go.Oper)) rfl (fun K hK => ?_) AllReadyH.nil
          go_simp
          refine (now_any hHeld.h1 (Nat.le_trans hHeld.len (by omega))).mono ?_
          rintro e wk ⟨rfl, hbk⟩
          refine hK.out _ _ (hHeld.later hbk) (fun hHeld => ?_)
          clear hK K
          try simp only [Act.put, List.setIfInBounds_toArray, List.set_cons_zero, List.set_cons_succ]
          refine wpAnyH_ready (rs := [22]) (by kernel_rfl) (by simp) ?_
          refine AllReadyH.cons (o := ({ dst := some 81, op := Go.Op.call { callee := Go.Callee.value (Go.Operand.func 21), args := #[Go.Operand.tmp 80], argTypes := #[39] }, type := 3, pos := "law.go:58", after := #[{ on := 21, ground := Go.Ground.data }, { on := 20, ground := Go.Ground.chain }, { on := 18, ground := Go.Ground.guard }], guard := some (18, false) } : Go.Oper)) rfl (fun K hK => ?_) AllReadyH.nil
          go_simp
          refine (rnow_any hHeld.h2 (Nat.le_trans hHeld.len (by omega))).mono ?_
          rintro e wk ⟨rfl, hbk⟩
          refine hK.out _ _ (hHeld.later hbk) (fun hHeld => ?_)
          clear hK K
          try simp only [Act.put, List.setIfInBounds_toArray, List.set_cons_zero, List.set_cons_succ]
          refine wpAnyH_take (i := 23) (oi := ({ dst := some 82, op := Go.Op.binOp Go.BinOp.neq 3 (Go.Operand.tmp 79) (Go.Operand.tmp 81) 3, type := 4, pos := "law.go:58", after := #[{ on := 20, ground := Go.Ground.data }, { on := 22, ground := Go.Ground.data }, { on := 18, ground := Go.Ground.guard }], guard := some (18, false) } : Go.Oper)) (v := .bool false) rfl (by kernel_rfl) (by kernel_rfl) (by kernel_rfl) (fun _ _ _ h => h) (Or.inl ⟨by rfl, ?_⟩) (by assumption) ?_
          · intro wx hSw
            try dsimp only at hSw
            have u0 := hSw.h2.at_.one.1
            go_simp
            try with_reducible rfl
          try simp only [Act.put, List.setIfInBounds_toArray, List.set_cons_zero, List.set_cons_succ]
          refine wpAnyH_take (i := 24) (oi := ({ dst := some 83, op := Go.Op.pick (Go.Operand.tmp 77) (Go.Operand.const (Go.Value.bool true)) (Go.Operand.tmp 82), type := 4, pos := "law.go:58", after := #[{ on := 18, ground := Go.Ground.data }, { on := 23, ground := Go.Ground.data }], guard := none } : Go.Oper)) (v := .bool false) rfl (by kernel_rfl) (by kernel_rfl) (by kernel_rfl) (fun _ _ _ h => h) (Or.inl ⟨by rfl, ?_⟩) (by assumption) ?_
          · intro wx hSw
            try dsimp only at hSw
            have u0 := hSw.h2.at_.one.1
            go_simp
            try with_reducible rfl
          try simp only [Act.put, List.setIfInBounds_toArray, List.set_cons_zero, List.set_cons_succ]
          refine wpAnyH_done (by kernel_rfl) ?_ _

          have hT' := hHeld
          clear hTq hHeld
          go_wp2
          go_roundw
          case rel => exact ⟨i + 1, _, _, _, by omega, by omega, rel_int (by omega), hT'⟩
          case measure => simp [intOf]; omega
        · go_wp2_with fail
          refine (add_ok hT.h1 hdm hlen hm (by omega) (by have := hT.len; omega)).mono ?_
          rintro e w3 ⟨va, rfl, hL3, ht3, hp3⟩
          have hM := hT.one hL3 ht3 hp3
          clear hL3 ht3 hp3 q0 q1 q2
          have q0 := later hM.bel hc0
          have q1 := later hM.bel hc1
          have q2 := later hM.bel hc2
          go_wp2_with fail
          refine (radd_ok hM.h2 hdm hlen hm (by omega) (by have := hT.len; omega)).mono ?_
          rintro e w4 ⟨vb, rfl, hA4, hE4, ht4⟩
          have hT := hT.two hm hM hA4 hE4 ht4
          have hxl : (xs ++ [Ev.mk k t d]).length = xs.length + 1 := by simp
          have hle := hT.len
          clear hM hA4 hE4 ht4 q0 q1 q2 hc0 hc1 hc2 hm ht
          generalize xs ++ [Ev.mk k t d] = ys at *
          have hxl' : ((xs.length : Int) + 1) = (ys.length : Int) := by omega
          rw [hxl']
          clear hxl hxl'
          obtain ⟨o2, q2, hsh⟩ := hT.h2.eo.shape
          subst hsh
          have hTq := hT
          clear hT
          go_wp2
          refine wp_region_held_drew (S := (fun W => TL w W xb b1 b2 s0 s1 va (.slice o2 (ys).length q2) (ys) (i + 1))) (by kernel_rfl) ?_ (fun hHeld => ?_)
          · first | exact hTq.later (Below.refl _ _).drew | assumption
          refine wpAnyH_take (i := 0) (oi := ({ dst := some 59, op := Go.Op.move (Go.Operand.tmp 10), type := 3, pos := "law.go:58", after := #[], guard := none } : Go.Oper)) (v := .int .i64 (ys.length : Int)) rfl (by kernel_rfl) (by kernel_rfl) (by kernel_rfl) (fun _ _ _ h => h) (Or.inl ⟨by rfl, ?_⟩) (by assumption) ?_
          · intro wx hSw
            try dsimp only at hSw
            have u0 := hSw.h2.at_.one.1
            go_simp
            try with_reducible rfl
          try simp only [Act.put, List.setIfInBounds_toArray, List.set_cons_zero, List.set_cons_succ]
          refine wpAnyH_take (i := 1) (oi := ({ dst := some 60, op := Go.Op.move (Go.Operand.tmp 12), type := 3, pos := "law.go:58", after := #[], guard := none } : Go.Oper)) (v := .int .i64 (ys.length : Int)) rfl (by kernel_rfl) (by kernel_rfl) (by kernel_rfl) (fun _ _ _ h => h) (Or.inl ⟨by rfl, ?_⟩) (by assumption) ?_
          · intro wx hSw
            try dsimp only at hSw
            have u0 := hSw.h2.at_.one.1
            go_simp
            try with_reducible rfl
          try simp only [Act.put, List.setIfInBounds_toArray, List.set_cons_zero, List.set_cons_succ]
          refine wpAnyH_take (i := 2) (oi := ({ dst := some 61, op := Go.Op.binOp Go.BinOp.neq 3 (Go.Operand.tmp 59) (Go.Operand.tmp 60) 3, type := 4, pos := "law.go:58", after := #[{ on := 0, ground := Go.Ground.data }, { on := 1, ground := Go.Ground.data }], guard := none } : Go.Oper)) (v := .bool false) rfl (by kernel_rfl) (by kernel_rfl) (by kernel_rfl) (fun _ _ _ h => h) (Or.inl ⟨by rfl, ?_⟩) (by assumption) ?_
          · intro wx hSw
            try dsimp only at hSw
            have u0 := hSw.h2.at_.one.1
            go_simp
            try with_reducible rfl
          try simp only [Act.put, List.setIfInBounds_toArray, List.set_cons_zero, List.set_cons_succ]
          refine wpAnyH_take (i := 3) (oi := ({ dst := some 62, op := Go.Op.move (Go.Operand.tmp 61), type := 4, pos := "law.go:58", after := #[{ on := 2, ground := Go.Ground.data }], guard := none } : Go.Oper)) (v := .bool false) rfl (by kernel_rfl) (by kernel_rfl) (by kernel_rfl) (fun _ _ _ h => h) (Or.inl ⟨by rfl, ?_⟩) (by assumption) ?_
          · intro wx hSw
            try dsimp only at hSw
            have u0 := hSw.h2.at_.one.1
            go_simp
            try with_reducible rfl
          try simp only [Act.put, List.setIfInBounds_toArray, List.set_cons_zero, List.set_cons_succ]
          refine wpAnyH_take (i := 4) (oi := ({ dst := some 63, op := Go.Op.move (Go.Operand.tmp 11), type := 24, pos := "law.go:58", after := #[{ on := 3, ground := Go.Ground.guard }], guard := some (3, false) } : Go.Oper)) (v := .int .i64 0) rfl (by kernel_rfl) (by kernel_rfl) (by kernel_rfl) (fun _ _ _ h => h) (Or.inl ⟨by rfl, ?_⟩) (by assumption) ?_
          · intro wx hSw
            try dsimp only at hSw
            have u0 := hSw.h2.at_.one.1
            go_simp
            try with_reducible rfl
          try simp only [Act.put, List.setIfInBounds_toArray, List.set_cons_zero, List.set_cons_succ]
          refine wpAnyH_take (i := 5) (oi := ({ dst := some 64, op := Go.Op.move (Go.Operand.tmp 13), type := 24, pos := "law.go:58", after := #[{ on := 3, ground := Go.Ground.guard }], guard := some (3, false) } : Go.Oper)) (v := .int .i64 0) rfl (by kernel_rfl) (by kernel_rfl) (by kernel_rfl) (fun _ _ _ h => h) (Or.inl ⟨by rfl, ?_⟩) (by assumption) ?_
          · intro wx hSw
            try dsimp only at hSw
            have u0 := hSw.h2.at_.one.1
            go_simp
            try with_reducible rfl
          try simp only [Act.put, List.setIfInBounds_toArray, List.set_cons_zero, List.set_cons_succ]
          refine wpAnyH_take (i := 6) (oi := ({ dst := some 65, op := Go.Op.binOp Go.BinOp.neq 24 (Go.Operand.tmp 63) (Go.Operand.tmp 64) 24, type := 4, pos := "law.go:58", after := #[{ on := 4, ground := Go.Ground.data }, { on := 5, ground := Go.Ground.data }, { on := 3, ground := Go.Ground.guard }], guard := some (3, false) } : Go.Oper)) (v := .bool false) rfl (by kernel_rfl) (by kernel_rfl) (by kernel_rfl) (fun _ _ _ h => h) (Or.inl ⟨by rfl, ?_⟩) (by assumption) ?_
          · intro wx hSw
            try dsimp only at hSw
            have u0 := hSw.h2.at_.one.1
            go_simp
            try with_reducible rfl
          try simp only [Act.put, List.setIfInBounds_toArray, List.set_cons_zero, List.set_cons_succ]
          refine wpAnyH_take (i := 7) (oi := ({ dst := some 66, op := Go.Op.pick (Go.Operand.tmp 62) (Go.Operand.const (Go.Value.bool true)) (Go.Operand.tmp 65), type := 4, pos := "law.go:58", after := #[{ on := 3, ground := Go.Ground.data }, { on := 6, ground := Go.Ground.data }], guard := none } : Go.Oper)) (v := .bool false) rfl (by kernel_rfl) (by kernel_rfl) (by kernel_rfl) (fun _ _ _ h => h) (Or.inl ⟨by rfl, ?_⟩) (by assumption) ?_
          · intro wx hSw
            try dsimp only at hSw
            have u0 := hSw.h2.at_.one.1
            go_simp
            try with_reducible rfl
          try simp only [Act.put, List.setIfInBounds_toArray, List.set_cons_zero, List.set_cons_succ]
          refine wpAnyH_take (i := 8) (oi := ({ dst := some 67, op := Go.Op.move (Go.Operand.tmp 66), type := 4, pos := "law.go:58", after := #[{ on := 7, ground := Go.Ground.data }, { on := 3, ground := Go.Ground.chain }], guard := none } : Go.Oper)) (v := .bool false) rfl (by kernel_rfl) (by kernel_rfl) (by kernel_rfl) (fun _ _ _ h => h) (Or.inl ⟨by rfl, ?_⟩) (by assumption) ?_
          · intro wx hSw
            try dsimp only at hSw
            have u0 := hSw.h2.at_.one.1
            go_simp
            try with_reducible rfl
          try simp only [Act.put, List.setIfInBounds_toArray, List.set_cons_zero, List.set_cons_succ]
          refine wpAnyH_take (i := 9) (oi := ({ dst := some 68, op := Go.Op.move (Go.Operand.tmp 7), type := 37, pos := "law.go:58", after := #[{ on := 8, ground := Go.Ground.guard }], guard := some (8, false) } : Go.Oper)) (v := .pointer (some ⟨b1, 0, none⟩)) rfl (by kernel_rfl) (by kernel_rfl) (by kernel_rfl) (fun _ _ _ h => h) (Or.inl ⟨by rfl, ?_⟩) (by assumption) ?_
          · intro wx hSw
            try dsimp only at hSw
            have u0 := hSw.h2.at_.one.1
            go_simp
            try with_reducible rfl
          try simp only [Act.put, List.setIfInBounds_toArray, List.set_cons_zero, List.set_cons_succ]
          refine wpAnyH_take (i := 11) (oi := ({ dst := some 70, op := Go.Op.move (Go.Operand.tmp 8), type := 39, pos := "law.go:58", after := #[{ on := 8, ground := Go.Ground.guard }], guard := some (8, false) } : Go.Oper)) (v := .pointer (some ⟨b2, 0, none⟩)) rfl (by kernel_rfl) (by kernel_rfl) (by kernel_rfl) (fun _ _ _ h => h) (Or.inl ⟨by rfl, ?_⟩) (by assumption) ?_
          · intro wx hSw
            try dsimp only at hSw
            have u0 := hSw.h2.at_.one.1
            go_simp
            try with_reducible rfl
          try simp only [Act.put, List.setIfInBounds_toArray, List.set_cons_zero, List.set_cons_succ]
          refine wpAnyH_take (i := 12) (oi := ({ dst := some 71, op := Go.Op.nilCheck (Go.Operand.tmp 70), type := 0, pos := "law.go:58", after := #[{ on := 11, ground := Go.Ground.data }, { on := 8, ground := Go.Ground.guard }], guard := some (8, false) } : Go.Oper)) (v := .pointer (some ⟨b2, 0, none⟩)) rfl (by kernel_rfl) (by kernel_rfl) (by kernel_rfl) (fun _ _ _ h => h) (Or.inl ⟨by rfl, ?_⟩) (by assumption) ?_
          · intro wx hSw
            try dsimp only at hSw
            have u0 := hSw.h2.at_.one.1
            go_simp
            try with_reducible rfl
          try simp only [Act.put, List.setIfInBounds_toArray, List.set_cons_zero, List.set_cons_succ]
          refine wpAnyH_take (i := 13) (oi := ({ dst := some 72, op := Go.Op.fieldAddr 41 (Go.Operand.tmp 71) 0, type := 0, pos := "law.go:58", after := #[{ on := 12, ground := Go.Ground.data }, { on := 8, ground := Go.Ground.guard }], guard := some (8, false) } : Go.Oper)) (v := .pointer (some ⟨b2, 0, none⟩)) rfl (by kernel_rfl) (by kernel_rfl) (by kernel_rfl) (fun _ _ _ h => h) (Or.inl ⟨by rfl, ?_⟩) (by assumption) ?_
          · intro wx hSw
            try dsimp only at hSw
            have u0 := hSw.h2.at_.one.1
            go_simp
            try with_reducible rfl
          try simp only [Act.put, List.setIfInBounds_toArray, List.set_cons_zero, List.set_cons_succ]
          refine wpAnyH_take (i := 14) (oi := ({ dst := some 73, op := Go.Op.load 29 (Go.Operand.tmp 72), type := 29, pos := "law.go:58", after := #[{ on := 13, ground := Go.Ground.data }, { on := 8, ground := Go.Ground.guard }], guard := some (8, false) } : Go.Oper)) (v := .slice o2 (ys).length q2) rfl (by kernel_rfl) (by kernel_rfl) (by kernel_rfl) (fun _ _ _ h => h) (Or.inl ⟨by rfl, ?_⟩) (by assumption) ?_
          · intro wx hSw
            try dsimp only at hSw
            have u0 := hSw.h2.at_.one.1
            go_simp
            try with_reducible rfl
          try simp only [Act.put, List.setIfInBounds_toArray, List.set_cons_zero, List.set_cons_succ]
          refine wpAnyH_take (i := 15) (oi := ({ dst := some 74, op := Go.Op.call { callee := Go.Callee.builtin Go.Builtin.len, args := #[Go.Operand.tmp 73], argTypes := #[29] }, type := 3, pos := "law.go:58", after := #[{ on := 14, ground := Go.Ground.data }, { on := 8, ground := Go.Ground.guard }], guard := some (8, false) } : Go.Oper)) (v := .int .i64 ((ys).length : Int)) rfl (by kernel_rfl) (by kernel_rfl) (by kernel_rfl) (fun _ _ _ h => h) (Or.inl ⟨by rfl, ?_⟩) (by assumption) ?_
          · intro wx hSw
            try dsimp only at hSw
            have u0 := hSw.h2.at_.one.1
            go_simp
            try with_reducible rfl
          try simp only [Act.put, List.setIfInBounds_toArray, List.set_cons_zero, List.set_cons_succ]
          refine wpAnyH_ready (rs := [10]) (by kernel_rfl) (by simp) ?_
          refine AllReadyH.cons (o := ({ dst := some 69, op := Go.Op.call { callee := Go.Callee.value (Go.Operand.func 19), args := #[Go.Operand.tmp 68], argTypes := #[37] }, type := 3, pos := "law.go:58", after := #[{ on := 9, ground := Go.Ground.data }, { on := 8, ground := Go.Ground.chain }, { on := 8, ground := Go.Ground.guard }], guard := some (8, false) } : Go.Oper)) rfl (fun K hK => ?_) AllReadyH.nil
          go_simp
          refine (len_any hHeld.h1).mono ?_
          rintro e wk ⟨rfl, rfl⟩
          refine hK.out _ _ hHeld (fun hHeld => ?_)
          clear hK K
          try simp only [Act.put, List.setIfInBounds_toArray, List.set_cons_zero, List.set_cons_succ]
          refine wpAnyH_take (i := 16) (oi := ({ dst := some 75, op := Go.Op.binOp Go.BinOp.neq 3 (Go.Operand.tmp 69) (Go.Operand.tmp 74) 3, type := 4, pos := "law.go:58", after := #[{ on := 10, ground := Go.Ground.data }, { on := 15, ground := Go.Ground.data }, { on := 8, ground := Go.Ground.guard }], guard := some (8, false) } : Go.Oper)) (v := .bool false) rfl (by kernel_rfl) (by kernel_rfl) (by kernel_rfl) (fun _ _ _ h => h) (Or.inl ⟨by rfl, ?_⟩) (by assumption) ?_
          · intro wx hSw
            try dsimp only at hSw
            have u0 := hSw.h2.at_.one.1
            go_simp
            try with_reducible rfl
          try simp only [Act.put, List.setIfInBounds_toArray, List.set_cons_zero, List.set_cons_succ]
          refine wpAnyH_take (i := 17) (oi := ({ dst := some 76, op := Go.Op.pick (Go.Operand.tmp 67) (Go.Operand.const (Go.Value.bool true)) (Go.Operand.tmp 75), type := 4, pos := "law.go:58", after := #[{ on := 8, ground := Go.Ground.data }, { on := 16, ground := Go.Ground.data }], guard := none } : Go.Oper)) (v := .bool false) rfl (by kernel_rfl) (by kernel_rfl) (by kernel_rfl) (fun _ _ _ h => h) (Or.inl ⟨by rfl, ?_⟩) (by assumption) ?_
          · intro wx hSw
            try dsimp only at hSw
            have u0 := hSw.h2.at_.one.1
            go_simp
            try with_reducible rfl
          try simp only [Act.put, List.setIfInBounds_toArray, List.set_cons_zero, List.set_cons_succ]
          refine wpAnyH_take (i := 18) (oi := ({ dst := some 77, op := Go.Op.move (Go.Operand.tmp 76), type := 4, pos := "law.go:58", after := #[{ on := 17, ground := Go.Ground.data }, { on := 10, ground := Go.Ground.chain }], guard := none } : Go.Oper)) (v := .bool false) rfl (by kernel_rfl) (by kernel_rfl) (by kernel_rfl) (fun _ _ _ h => h) (Or.inl ⟨by rfl, ?_⟩) (by assumption) ?_
          · intro wx hSw
            try dsimp only at hSw
            have u0 := hSw.h2.at_.one.1
            go_simp
            try with_reducible rfl
          try simp only [Act.put, List.setIfInBounds_toArray, List.set_cons_zero, List.set_cons_succ]
          refine wpAnyH_take (i := 19) (oi := ({ dst := some 78, op := Go.Op.move (Go.Operand.tmp 7), type := 37, pos := "law.go:58", after := #[{ on := 18, ground := Go.Ground.guard }], guard := some (18, false) } : Go.Oper)) (v := .pointer (some ⟨b1, 0, none⟩)) rfl (by kernel_rfl) (by kernel_rfl) (by kernel_rfl) (fun _ _ _ h => h) (Or.inl ⟨by rfl, ?_⟩) (by assumption) ?_
          · intro wx hSw
            try dsimp only at hSw
            have u0 := hSw.h2.at_.one.1
            go_simp
            try with_reducible rfl
          try simp only [Act.put, List.setIfInBounds_toArray, List.set_cons_zero, List.set_cons_succ]
          refine wpAnyH_take (i := 21) (oi := ({ dst := some 80, op := Go.Op.move (Go.Operand.tmp 8), type := 39, pos := "law.go:58", after := #[{ on := 18, ground := Go.Ground.guard }], guard := some (18, false) } : Go.Oper)) (v := .pointer (some ⟨b2, 0, none⟩)) rfl (by kernel_rfl) (by kernel_rfl) (by kernel_rfl) (fun _ _ _ h => h) (Or.inl ⟨by rfl, ?_⟩) (by assumption) ?_
          · intro wx hSw
            try dsimp only at hSw
            have u0 := hSw.h2.at_.one.1
            go_simp
            try with_reducible rfl
          try simp only [Act.put, List.setIfInBounds_toArray, List.set_cons_zero, List.set_cons_succ]
          refine wpAnyH_ready (rs := [20]) (by kernel_rfl) (by simp) ?_
          refine AllReadyH.cons (o := ({ dst := some 79, op := Go.Op.call { callee := Go.Callee.value (Go.Operand.func 20), args := #[Go.Operand.tmp 78], argTypes := #[37] }, type := 3, pos := "law.go:58", after := #[{ on := 19, ground := Go.Ground.data }, { on := 18, ground := Go.Ground.chain }, { on := 18, ground := Go.Ground.guard }], guard := some (18, false) } : Go.Oper)) rfl (fun K hK => ?_) AllReadyH.nil
          go_simp
          refine (now_any hHeld.h1 (Nat.le_trans hHeld.len (by omega))).mono ?_
          rintro e wk ⟨rfl, hbk⟩
          refine hK.out _ _ (hHeld.later hbk) (fun hHeld => ?_)
          clear hK K
          try simp only [Act.put, List.setIfInBounds_toArray, List.set_cons_zero, List.set_cons_succ]
          refine wpAnyH_ready (rs := [22]) (by kernel_rfl) (by simp) ?_
          refine AllReadyH.cons (o := ({ dst := some 81, op := Go.Op.call { callee := Go.Callee.value (Go.Operand.func 21), args := #[Go.Operand.tmp 80], argTypes := #[39] }, type := 3, pos := "law.go:58", after := #[{ on := 21, ground := Go.Ground.data }, { on := 20, ground := Go.Ground.chain }, { on := 18, ground := Go.Ground.guard }], guard := some (18, false) } : Go.Oper)) rfl (fun K hK => ?_) AllReadyH.nil
          go_simp
          refine (rnow_any hHeld.h2 (Nat.le_trans hHeld.len (by omega))).mono ?_
          rintro e wk ⟨rfl, hbk⟩
          refine hK.out _ _ (hHeld.later hbk) (fun hHeld => ?_)
          clear hK K
          try simp only [Act.put, List.setIfInBounds_toArray, List.set_cons_zero, List.set_cons_succ]
          refine wpAnyH_take (i := 23) (oi := ({ dst := some 82, op := Go.Op.binOp Go.BinOp.neq 3 (Go.Operand.tmp 79) (Go.Operand.tmp 81) 3, type := 4, pos := "law.go:58", after := #[{ on := 20, ground := Go.Ground.data }, { on := 22, ground := Go.Ground.data }, { on := 18, ground := Go.Ground.guard }], guard := some (18, false) } : Go.Oper)) (v := .bool false) rfl (by kernel_rfl) (by kernel_rfl) (by kernel_rfl) (fun _ _ _ h => h) (Or.inl ⟨by rfl, ?_⟩) (by assumption) ?_
          · intro wx hSw
            try dsimp only at hSw
            have u0 := hSw.h2.at_.one.1
            go_simp
            try with_reducible rfl
          try simp only [Act.put, List.setIfInBounds_toArray, List.set_cons_zero, List.set_cons_succ]
          refine wpAnyH_take (i := 24) (oi := ({ dst := some 83, op := Go.Op.pick (Go.Operand.tmp 77) (Go.Operand.const (Go.Value.bool true)) (Go.Operand.tmp 82), type := 4, pos := "law.go:58", after := #[{ on := 18, ground := Go.Ground.data }, { on := 23, ground := Go.Ground.data }], guard := none } : Go.Oper)) (v := .bool false) rfl (by kernel_rfl) (by kernel_rfl) (by kernel_rfl) (fun _ _ _ h => h) (Or.inl ⟨by rfl, ?_⟩) (by assumption) ?_
          · intro wx hSw
            try dsimp only at hSw
            have u0 := hSw.h2.at_.one.1
            go_simp
            try with_reducible rfl
          try simp only [Act.put, List.setIfInBounds_toArray, List.set_cons_zero, List.set_cons_succ]
          refine wpAnyH_done (by kernel_rfl) ?_ _

          have hT' := hHeld
          clear hTq hHeld
          go_wp2
          go_roundw
          case rel => exact ⟨i + 1, _, _, _, by omega, by omega, rel_int (by omega), hT'⟩
          case measure => simp [intOf]; omega
      · go_wp2_with fail
        refine (add_bad hT.h1 hdm hlen hm).mono ?_
        rintro e w3 ⟨rfl, hb3⟩
        have hT := hT.later hb3
        clear hb3 q0 q1 q2
        have q0 := later hT.bel hc0
        have q1 := later hT.bel hc1
        have q2 := later hT.bel hc2
        go_wp2_with fail
        refine (radd_bad hT.h2 hdm hlen hm).mono ?_
        rintro e w4 ⟨rfl, hb4⟩
        have hT := (hT.later hb4).up
        clear hb4 q0 q1 q2 hc0 hc1 hc2 hm
        obtain ⟨o2, q2, hsh⟩ := hT.h2.eo.shape
        subst hsh
        have hTq := hT
        clear hT
        go_wp2
        refine wp_region_held_drew (S := (fun W => TL w W xb b1 b2 s0 s1 v1 (.slice o2 (xs).length q2) (xs) (i + 1))) (by kernel_rfl) ?_ (fun hHeld => ?_)
        · first | exact hTq.later (Below.refl _ _).drew | assumption
        refine wpAnyH_take (i := 0) (oi := ({ dst := some 59, op := Go.Op.move (Go.Operand.tmp 10), type := 3, pos := "law.go:58", after := #[], guard := none } : Go.Oper)) (v := .int .i64 (0)) rfl (by kernel_rfl) (by kernel_rfl) (by kernel_rfl) (fun _ _ _ h => h) (Or.inl ⟨by rfl, ?_⟩) (by assumption) ?_
        · intro wx hSw
          try dsimp only at hSw
          have u0 := hSw.h2.at_.one.1
          go_simp
          try with_reducible rfl
        try simp only [Act.put, List.setIfInBounds_toArray, List.set_cons_zero, List.set_cons_succ]
        refine wpAnyH_take (i := 1) (oi := ({ dst := some 60, op := Go.Op.move (Go.Operand.tmp 12), type := 3, pos := "law.go:58", after := #[], guard := none } : Go.Oper)) (v := .int .i64 (0)) rfl (by kernel_rfl) (by kernel_rfl) (by kernel_rfl) (fun _ _ _ h => h) (Or.inl ⟨by rfl, ?_⟩) (by assumption) ?_
        · intro wx hSw
          try dsimp only at hSw
          have u0 := hSw.h2.at_.one.1
          go_simp
          try with_reducible rfl
        try simp only [Act.put, List.setIfInBounds_toArray, List.set_cons_zero, List.set_cons_succ]
        refine wpAnyH_take (i := 2) (oi := ({ dst := some 61, op := Go.Op.binOp Go.BinOp.neq 3 (Go.Operand.tmp 59) (Go.Operand.tmp 60) 3, type := 4, pos := "law.go:58", after := #[{ on := 0, ground := Go.Ground.data }, { on := 1, ground := Go.Ground.data }], guard := none } : Go.Oper)) (v := .bool false) rfl (by kernel_rfl) (by kernel_rfl) (by kernel_rfl) (fun _ _ _ h => h) (Or.inl ⟨by rfl, ?_⟩) (by assumption) ?_
        · intro wx hSw
          try dsimp only at hSw
          have u0 := hSw.h2.at_.one.1
          go_simp
          try with_reducible rfl
        try simp only [Act.put, List.setIfInBounds_toArray, List.set_cons_zero, List.set_cons_succ]
        refine wpAnyH_take (i := 3) (oi := ({ dst := some 62, op := Go.Op.move (Go.Operand.tmp 61), type := 4, pos := "law.go:58", after := #[{ on := 2, ground := Go.Ground.data }], guard := none } : Go.Oper)) (v := .bool false) rfl (by kernel_rfl) (by kernel_rfl) (by kernel_rfl) (fun _ _ _ h => h) (Or.inl ⟨by rfl, ?_⟩) (by assumption) ?_
        · intro wx hSw
          try dsimp only at hSw
          have u0 := hSw.h2.at_.one.1
          go_simp
          try with_reducible rfl
        try simp only [Act.put, List.setIfInBounds_toArray, List.set_cons_zero, List.set_cons_succ]
        refine wpAnyH_take (i := 4) (oi := ({ dst := some 63, op := Go.Op.move (Go.Operand.tmp 11), type := 24, pos := "law.go:58", after := #[{ on := 3, ground := Go.Ground.guard }], guard := some (3, false) } : Go.Oper)) (v := .int .i64 230) rfl (by kernel_rfl) (by kernel_rfl) (by kernel_rfl) (fun _ _ _ h => h) (Or.inl ⟨by rfl, ?_⟩) (by assumption) ?_
        · intro wx hSw
          try dsimp only at hSw
          have u0 := hSw.h2.at_.one.1
          go_simp
          try with_reducible rfl
        try simp only [Act.put, List.setIfInBounds_toArray, List.set_cons_zero, List.set_cons_succ]
        refine wpAnyH_take (i := 5) (oi := ({ dst := some 64, op := Go.Op.move (Go.Operand.tmp 13), type := 24, pos := "law.go:58", after := #[{ on := 3, ground := Go.Ground.guard }], guard := some (3, false) } : Go.Oper)) (v := .int .i64 230) rfl (by kernel_rfl) (by kernel_rfl) (by kernel_rfl) (fun _ _ _ h => h) (Or.inl ⟨by rfl, ?_⟩) (by assumption) ?_
        · intro wx hSw
          try dsimp only at hSw
          have u0 := hSw.h2.at_.one.1
          go_simp
          try with_reducible rfl
        try simp only [Act.put, List.setIfInBounds_toArray, List.set_cons_zero, List.set_cons_succ]
        refine wpAnyH_take (i := 6) (oi := ({ dst := some 65, op := Go.Op.binOp Go.BinOp.neq 24 (Go.Operand.tmp 63) (Go.Operand.tmp 64) 24, type := 4, pos := "law.go:58", after := #[{ on := 4, ground := Go.Ground.data }, { on := 5, ground := Go.Ground.data }, { on := 3, ground := Go.Ground.guard }], guard := some (3, false) } : Go.Oper)) (v := .bool false) rfl (by kernel_rfl) (by kernel_rfl) (by kernel_rfl) (fun _ _ _ h => h) (Or.inl ⟨by rfl, ?_⟩) (by assumption) ?_
        · intro wx hSw
          try dsimp only at hSw
          have u0 := hSw.h2.at_.one.1
          go_simp
          try with_reducible rfl
        try simp only [Act.put, List.setIfInBounds_toArray, List.set_cons_zero, List.set_cons_succ]
        refine wpAnyH_take (i := 7) (oi := ({ dst := some 66, op := Go.Op.pick (Go.Operand.tmp 62) (Go.Operand.const (Go.Value.bool true)) (Go.Operand.tmp 65), type := 4, pos := "law.go:58", after := #[{ on := 3, ground := Go.Ground.data }, { on := 6, ground := Go.Ground.data }], guard := none } : Go.Oper)) (v := .bool false) rfl (by kernel_rfl) (by kernel_rfl) (by kernel_rfl) (fun _ _ _ h => h) (Or.inl ⟨by rfl, ?_⟩) (by assumption) ?_
        · intro wx hSw
          try dsimp only at hSw
          have u0 := hSw.h2.at_.one.1
          go_simp
          try with_reducible rfl
        try simp only [Act.put, List.setIfInBounds_toArray, List.set_cons_zero, List.set_cons_succ]
        refine wpAnyH_take (i := 8) (oi := ({ dst := some 67, op := Go.Op.move (Go.Operand.tmp 66), type := 4, pos := "law.go:58", after := #[{ on := 7, ground := Go.Ground.data }, { on := 3, ground := Go.Ground.chain }], guard := none } : Go.Oper)) (v := .bool false) rfl (by kernel_rfl) (by kernel_rfl) (by kernel_rfl) (fun _ _ _ h => h) (Or.inl ⟨by rfl, ?_⟩) (by assumption) ?_
        · intro wx hSw
          try dsimp only at hSw
          have u0 := hSw.h2.at_.one.1
          go_simp
          try with_reducible rfl
        try simp only [Act.put, List.setIfInBounds_toArray, List.set_cons_zero, List.set_cons_succ]
        refine wpAnyH_take (i := 9) (oi := ({ dst := some 68, op := Go.Op.move (Go.Operand.tmp 7), type := 37, pos := "law.go:58", after := #[{ on := 8, ground := Go.Ground.guard }], guard := some (8, false) } : Go.Oper)) (v := .pointer (some ⟨b1, 0, none⟩)) rfl (by kernel_rfl) (by kernel_rfl) (by kernel_rfl) (fun _ _ _ h => h) (Or.inl ⟨by rfl, ?_⟩) (by assumption) ?_
        · intro wx hSw
          try dsimp only at hSw
          have u0 := hSw.h2.at_.one.1
          go_simp
          try with_reducible rfl
        try simp only [Act.put, List.setIfInBounds_toArray, List.set_cons_zero, List.set_cons_succ]
        refine wpAnyH_take (i := 11) (oi := ({ dst := some 70, op := Go.Op.move (Go.Operand.tmp 8), type := 39, pos := "law.go:58", after := #[{ on := 8, ground := Go.Ground.guard }], guard := some (8, false) } : Go.Oper)) (v := .pointer (some ⟨b2, 0, none⟩)) rfl (by kernel_rfl) (by kernel_rfl) (by kernel_rfl) (fun _ _ _ h => h) (Or.inl ⟨by rfl, ?_⟩) (by assumption) ?_
        · intro wx hSw
          try dsimp only at hSw
          have u0 := hSw.h2.at_.one.1
          go_simp
          try with_reducible rfl
        try simp only [Act.put, List.setIfInBounds_toArray, List.set_cons_zero, List.set_cons_succ]
        refine wpAnyH_take (i := 12) (oi := ({ dst := some 71, op := Go.Op.nilCheck (Go.Operand.tmp 70), type := 0, pos := "law.go:58", after := #[{ on := 11, ground := Go.Ground.data }, { on := 8, ground := Go.Ground.guard }], guard := some (8, false) } : Go.Oper)) (v := .pointer (some ⟨b2, 0, none⟩)) rfl (by kernel_rfl) (by kernel_rfl) (by kernel_rfl) (fun _ _ _ h => h) (Or.inl ⟨by rfl, ?_⟩) (by assumption) ?_
        · intro wx hSw
          try dsimp only at hSw
          have u0 := hSw.h2.at_.one.1
          go_simp
          try with_reducible rfl
        try simp only [Act.put, List.setIfInBounds_toArray, List.set_cons_zero, List.set_cons_succ]
        refine wpAnyH_take (i := 13) (oi := ({ dst := some 72, op := Go.Op.fieldAddr 41 (Go.Operand.tmp 71) 0, type := 0, pos := "law.go:58", after := #[{ on := 12, ground := Go.Ground.data }, { on := 8, ground := Go.Ground.guard }], guard := some (8, false) } : Go.Oper)) (v := .pointer (some ⟨b2, 0, none⟩)) rfl (by kernel_rfl) (by kernel_rfl) (by kernel_rfl) (fun _ _ _ h => h) (Or.inl ⟨by rfl, ?_⟩) (by assumption) ?_
        · intro wx hSw
          try dsimp only at hSw
          have u0 := hSw.h2.at_.one.1
          go_simp
          try with_reducible rfl
        try simp only [Act.put, List.setIfInBounds_toArray, List.set_cons_zero, List.set_cons_succ]
        refine wpAnyH_take (i := 14) (oi := ({ dst := some 73, op := Go.Op.load 29 (Go.Operand.tmp 72), type := 29, pos := "law.go:58", after := #[{ on := 13, ground := Go.Ground.data }, { on := 8, ground := Go.Ground.guard }], guard := some (8, false) } : Go.Oper)) (v := .slice o2 (xs).length q2) rfl (by kernel_rfl) (by kernel_rfl) (by kernel_rfl) (fun _ _ _ h => h) (Or.inl ⟨by rfl, ?_⟩) (by assumption) ?_
        · intro wx hSw
          try dsimp only at hSw
          have u0 := hSw.h2.at_.one.1
          go_simp
          try with_reducible rfl
        try simp only [Act.put, List.setIfInBounds_toArray, List.set_cons_zero, List.set_cons_succ]
        refine wpAnyH_take (i := 15) (oi := ({ dst := some 74, op := Go.Op.call { callee := Go.Callee.builtin Go.Builtin.len, args := #[Go.Operand.tmp 73], argTypes := #[29] }, type := 3, pos := "law.go:58", after := #[{ on := 14, ground := Go.Ground.data }, { on := 8, ground := Go.Ground.guard }], guard := some (8, false) } : Go.Oper)) (v := .int .i64 ((xs).length : Int)) rfl (by kernel_rfl) (by kernel_rfl) (by kernel_rfl) (fun _ _ _ h => h) (Or.inl ⟨by rfl, ?_⟩) (by assumption) ?_
        · intro wx hSw
          try dsimp only at hSw
          have u0 := hSw.h2.at_.one.1
          go_simp
          try with_reducible rfl
        try simp only [Act.put, List.setIfInBounds_toArray, List.set_cons_zero, List.set_cons_succ]
        refine wpAnyH_ready (rs := [10]) (by kernel_rfl) (by simp) ?_
        refine AllReadyH.cons (o := ({ dst := some 69, op := Go.Op.call { callee := Go.Callee.value (Go.Operand.func 19), args := #[Go.Operand.tmp 68], argTypes := #[37] }, type := 3, pos := "law.go:58", after := #[{ on := 9, ground := Go.Ground.data }, { on := 8, ground := Go.Ground.chain }, { on := 8, ground := Go.Ground.guard }], guard := some (8, false) } : Go.Oper)) rfl (fun K hK => ?_) AllReadyH.nil
        go_simp
        refine (len_any hHeld.h1).mono ?_
        rintro e wk ⟨rfl, rfl⟩
        refine hK.out _ _ hHeld (fun hHeld => ?_)
        clear hK K
        try simp only [Act.put, List.setIfInBounds_toArray, List.set_cons_zero, List.set_cons_succ]
        refine wpAnyH_take (i := 16) (oi := ({ dst := some 75, op := Go.Op.binOp Go.BinOp.neq 3 (Go.Operand.tmp 69) (Go.Operand.tmp 74) 3, type := 4, pos := "law.go:58", after := #[{ on := 10, ground := Go.Ground.data }, { on := 15, ground := Go.Ground.data }, { on := 8, ground := Go.Ground.guard }], guard := some (8, false) } : Go.Oper)) (v := .bool false) rfl (by kernel_rfl) (by kernel_rfl) (by kernel_rfl) (fun _ _ _ h => h) (Or.inl ⟨by rfl, ?_⟩) (by assumption) ?_
        · intro wx hSw
          try dsimp only at hSw
          have u0 := hSw.h2.at_.one.1
          go_simp
          try with_reducible rfl
        try simp only [Act.put, List.setIfInBounds_toArray, List.set_cons_zero, List.set_cons_succ]
        refine wpAnyH_take (i := 17) (oi := ({ dst := some 76, op := Go.Op.pick (Go.Operand.tmp 67) (Go.Operand.const (Go.Value.bool true)) (Go.Operand.tmp 75), type := 4, pos := "law.go:58", after := #[{ on := 8, ground := Go.Ground.data }, { on := 16, ground := Go.Ground.data }], guard := none } : Go.Oper)) (v := .bool false) rfl (by kernel_rfl) (by kernel_rfl) (by kernel_rfl) (fun _ _ _ h => h) (Or.inl ⟨by rfl, ?_⟩) (by assumption) ?_
        · intro wx hSw
          try dsimp only at hSw
          have u0 := hSw.h2.at_.one.1
          go_simp
          try with_reducible rfl
        try simp only [Act.put, List.setIfInBounds_toArray, List.set_cons_zero, List.set_cons_succ]
        refine wpAnyH_take (i := 18) (oi := ({ dst := some 77, op := Go.Op.move (Go.Operand.tmp 76), type := 4, pos := "law.go:58", after := #[{ on := 17, ground := Go.Ground.data }, { on := 10, ground := Go.Ground.chain }], guard := none } : Go.Oper)) (v := .bool false) rfl (by kernel_rfl) (by kernel_rfl) (by kernel_rfl) (fun _ _ _ h => h) (Or.inl ⟨by rfl, ?_⟩) (by assumption) ?_
        · intro wx hSw
          try dsimp only at hSw
          have u0 := hSw.h2.at_.one.1
          go_simp
          try with_reducible rfl
        try simp only [Act.put, List.setIfInBounds_toArray, List.set_cons_zero, List.set_cons_succ]
        refine wpAnyH_take (i := 19) (oi := ({ dst := some 78, op := Go.Op.move (Go.Operand.tmp 7), type := 37, pos := "law.go:58", after := #[{ on := 18, ground := Go.Ground.guard }], guard := some (18, false) } : Go.Oper)) (v := .pointer (some ⟨b1, 0, none⟩)) rfl (by kernel_rfl) (by kernel_rfl) (by kernel_rfl) (fun _ _ _ h => h) (Or.inl ⟨by rfl, ?_⟩) (by assumption) ?_
        · intro wx hSw
          try dsimp only at hSw
          have u0 := hSw.h2.at_.one.1
          go_simp
          try with_reducible rfl
        try simp only [Act.put, List.setIfInBounds_toArray, List.set_cons_zero, List.set_cons_succ]
        refine wpAnyH_take (i := 21) (oi := ({ dst := some 80, op := Go.Op.move (Go.Operand.tmp 8), type := 39, pos := "law.go:58", after := #[{ on := 18, ground := Go.Ground.guard }], guard := some (18, false) } : Go.Oper)) (v := .pointer (some ⟨b2, 0, none⟩)) rfl (by kernel_rfl) (by kernel_rfl) (by kernel_rfl) (fun _ _ _ h => h) (Or.inl ⟨by rfl, ?_⟩) (by assumption) ?_
        · intro wx hSw
          try dsimp only at hSw
          have u0 := hSw.h2.at_.one.1
          go_simp
          try with_reducible rfl
        try simp only [Act.put, List.setIfInBounds_toArray, List.set_cons_zero, List.set_cons_succ]
        refine wpAnyH_ready (rs := [20]) (by kernel_rfl) (by simp) ?_
        refine AllReadyH.cons (o := ({ dst := some 79, op := Go.Op.call { callee := Go.Callee.value (Go.Operand.func 20), args := #[Go.Operand.tmp 78], argTypes := #[37] }, type := 3, pos := "law.go:58", after := #[{ on := 19, ground := Go.Ground.data }, { on := 18, ground := Go.Ground.chain }, { on := 18, ground := Go.Ground.guard }], guard := some (18, false) } : Go.Oper)) rfl (fun K hK => ?_) AllReadyH.nil
        go_simp
        refine (now_any hHeld.h1 (Nat.le_trans hHeld.len (by omega))).mono ?_
        rintro e wk ⟨rfl, hbk⟩
        refine hK.out _ _ (hHeld.later hbk) (fun hHeld => ?_)
        clear hK K
        try simp only [Act.put, List.setIfInBounds_toArray, List.set_cons_zero, List.set_cons_succ]
        refine wpAnyH_ready (rs := [22]) (by kernel_rfl) (by simp) ?_
        refine AllReadyH.cons (o := ({ dst := some 81, op := Go.Op.call { callee := Go.Callee.value (Go.Operand.func 21), args := #[Go.Operand.tmp 80], argTypes := #[39] }, type := 3, pos := "law.go:58", after := #[{ on := 21, ground := Go.Ground.data }, { on := 20, ground := Go.Ground.chain }, { on := 18, ground := Go.Ground.guard }], guard := some (18, false) } : Go.Oper)) rfl (fun K hK => ?_) AllReadyH.nil
        go_simp
        refine (rnow_any hHeld.h2 (Nat.le_trans hHeld.len (by omega))).mono ?_
        rintro e wk ⟨rfl, hbk⟩
        refine hK.out _ _ (hHeld.later hbk) (fun hHeld => ?_)
        clear hK K
        try simp only [Act.put, List.setIfInBounds_toArray, List.set_cons_zero, List.set_cons_succ]
        refine wpAnyH_take (i := 23) (oi := ({ dst := some 82, op := Go.Op.binOp Go.BinOp.neq 3 (Go.Operand.tmp 79) (Go.Operand.tmp 81) 3, type := 4, pos := "law.go:58", after := #[{ on := 20, ground := Go.Ground.data }, { on := 22, ground := Go.Ground.data }, { on := 18, ground := Go.Ground.guard }], guard := some (18, false) } : Go.Oper)) (v := .bool false) rfl (by kernel_rfl) (by kernel_rfl) (by kernel_rfl) (fun _ _ _ h => h) (Or.inl ⟨by rfl, ?_⟩) (by assumption) ?_
        · intro wx hSw
          try dsimp only at hSw
          have u0 := hSw.h2.at_.one.1
          go_simp
          try with_reducible rfl
        try simp only [Act.put, List.setIfInBounds_toArray, List.set_cons_zero, List.set_cons_succ]
        refine wpAnyH_take (i := 24) (oi := ({ dst := some 83, op := Go.Op.pick (Go.Operand.tmp 77) (Go.Operand.const (Go.Value.bool true)) (Go.Operand.tmp 82), type := 4, pos := "law.go:58", after := #[{ on := 18, ground := Go.Ground.data }, { on := 23, ground := Go.Ground.data }], guard := none } : Go.Oper)) (v := .bool false) rfl (by kernel_rfl) (by kernel_rfl) (by kernel_rfl) (fun _ _ _ h => h) (Or.inl ⟨by rfl, ?_⟩) (by assumption) ?_
        · intro wx hSw
          try dsimp only at hSw
          have u0 := hSw.h2.at_.one.1
          go_simp
          try with_reducible rfl
        try simp only [Act.put, List.setIfInBounds_toArray, List.set_cons_zero, List.set_cons_succ]
        refine wpAnyH_done (by kernel_rfl) ?_ _

        have hT' := hHeld
        clear hTq hHeld
        go_wp2
        go_roundw
        case rel => exact ⟨i + 1, _, _, _, by omega, by omega, rel_int (by omega), hT'⟩
        case measure => simp [intOf]; omega
    · have hle : xs.length ≤ 1000 := Nat.le_trans hT.len (by omega)
      have hle2 : xs.length ≤ 1000000 := by omega
      have hend : i = n ∨ (i = 100 ∧ (100 : Int) < (n : Int)) := by omega
      obtain ⟨⟨p0, p1⟩, -⟩ : (wr.cell? ⟨xb, 0, none⟩ = some (.int .i64 s0) ∧ wr.cell? ⟨xb, 1, none⟩ = some (.int .i64 s1)) ∧ True := ⟨⟨(hT.hp.2 0 _ rfl).1, (hT.hp.2 1 _ rfl).1⟩, trivial⟩
      have hby := bytes_any fr s0 hT.h1 hle hT.may E0.out
      have hT0 : Hid _ := hT
      clear hlt hT hin hi
      rcases hend with rfl | ⟨rfl, hend⟩
      all_goals
        go_wp2_with fail
        refine hby.mono ?_
        rintro e w3 ⟨rfl, hb3⟩
        have hT := TL.later hT0 hb3
        clear hT0 hby hb3 p0 p1
        have p0 := (hT.hp.2 0 _ rfl).1
        have p1 := (hT.hp.2 1 _ rfl).1
        have hrb := rbytes_any fr s0 hT.h2 hle hT.may E0.out
        generalize byS xs fr s0 = S at *
        generalize fromV fr + byN xs fr s0 = M at *
        go_wp2_with fail
        refine hrb.mono ?_
        rintro e w4 ⟨rfl, hb4⟩
        have hT := hT.later hb4
        clear hrb hb4 p0 p1
        have p0 := (hT.hp.2 0 _ rfl).1
        have p1 := (hT.hp.2 1 _ rfl).1
        have hge := get_log s1 hT.h1 hle2 E1.out
        have hrg := fun W (h : LG W b2 v2 xs) => rget_log s1 h hle2 E1.out
        generalize getE xs s1 = X at *
        generalize getC xs s1 = C at *
        obtain ⟨K, T, D⟩ := X
        go_wp2_with fail
        refine hge.mono ?_
        rintro e w5 ⟨rfl, hb5⟩
        have hT := hT.later hb5
        clear hge hb5 p0 p1
        have hY := At.box w5 #[.int .i64 K, .int .i64 T, .string D] 23
        have hT := hT.later (bel1 w5 (.cells #[.int .i64 K, .int .i64 T, .string D] 23))
        have p0 := (hT.hp.2 0 _ rfl).1
        have p1 := (hT.hp.2 1 _ rfl).1
        go_wp2_with fail
        refine (hrg _ hT.h2).mono ?_
        rintro e w6 ⟨rfl, hb6⟩
        have hT := hT.later hb6
        have hY := hY.later hb6
        clear hrg hb6 p0 p1
        have hZ := At.box w6 #[.int .i64 K, .int .i64 T, .string D] 23
        have hT := hT.later (bel1 w6 (.cells #[.int .i64 K, .int .i64 T, .string D] 23))
        have hY := hY.later (bel1 w6 (.cells #[.int .i64 K, .int .i64 T, .string D] 23))
        obtain ⟨⟨y0, y1, y2⟩, -, -⟩ := hY.three
        obtain ⟨⟨z0, z1, z2⟩, -, -⟩ := hZ.three
        have hbel := hT.bel
        clear hT hY hZ
        go_wp2
        go_ret
        exact ⟨rfl, hbel⟩
end Go.Proofs.Ytgjkplkghoeeeaa
