/- RecvqPlays: the walk. -/
import Derived.Test.YtiglaalppaljbaaYf
import Derived.Test.YtiglaalppaljbaaVl
import Derived.Test.YtiglaalppaljbaaFlat
namespace Go.Proofs.Ytiglaalppaljbaa
open Go.RowKit Go.Maps Go.Lib
set_option maxRecDepth 100000
set_option linter.unusedVariables false
set_option linter.unusedSimpArgs false


theorem plays_big (first room : Int) (a : Option Addr) (n cap : Nat) (w : World) (h0 : 3000 < room) (h1 : room ≤ 65536) :
    Calls Try.prog 3 #[.int .i64 first, .int .i64 room, .slice a n cap] w fun e w' => e = .returned (.bool true) ∧ Below w.heap.size w w' := by
  go_enter Try.func3, Try.ntmps3
  go_wp2_with fail
  refine (works_any w).mono ?_
  rintro e w1 ⟨rfl, hb1⟩
  go_wp2
  go_ret
  exact ⟨rfl, hb1⟩
theorem plays_f (first room : Int) (a : Option Addr) (n cap : Nat) (w : World) (h : newB first room = false) (hb : ¬ (3000 < room ∧ room ≤ 65536)) :
    Calls Try.prog 3 #[.int .i64 first, .int .i64 room, .slice a n cap] w fun e w' => e = .returned (.bool true) ∧ Below w.heap.size w w' := by
  have hn1 := new_f first room w h
  have hn2 := rnew_f first room w h
  by_cases hr : 3000 < room
  · have hr2 : ¬ room ≤ 65536 := fun e => hb ⟨hr, e⟩
    clear hb h
    go_enter Try.func3, Try.ntmps3
    go_wp2_with fail
    refine hn1.mono ?_
    rintro e w1 ⟨rfl, hw1⟩
    subst hw1
    go_wp2_with fail
    refine hn2.mono ?_
    rintro e w2 ⟨rfl, hw2⟩
    subst hw2
    go_wp2_with fail
    refine (works_any _).mono ?_
    rintro e w3 ⟨rfl, hb3⟩
    go_wp2_with fail
    try go_frame
    go_loopw [11] (fun s11 W => s11 = .int .i64 0 ∧ W = w3) (fun _ _ => 0)
    case atStart => exact ⟨rfl, rfl⟩
    case round =>
      obtain ⟨rfl, hwe⟩ := hrel
      subst hwe
      go_wp2
      go_ret
      exact ⟨rfl, hb3⟩
  · clear hb h
    go_enter Try.func3, Try.ntmps3
    go_wp2_with fail
    refine hn1.mono ?_
    rintro e w1 ⟨rfl, hw1⟩
    subst hw1
    go_wp2_with fail
    refine hn2.mono ?_
    rintro e w2 ⟨rfl, hw2⟩
    subst hw2
    go_wp2_with fail
    refine (works_any _).mono ?_
    rintro e w3 ⟨rfl, hb3⟩
    go_wp2_with fail
    try go_frame
    go_loopw [11] (fun s11 W => s11 = .int .i64 0 ∧ W = w3) (fun _ _ => 0)
    case atStart => exact ⟨rfl, rfl⟩
    case round =>
      obtain ⟨rfl, hwe⟩ := hrel
      subst hwe
      go_wp2
      go_ret
      exact ⟨rfl, hb3⟩
structure LX (w : World) (base q r : Nat) (A B : Bk) (Q : Rq) : Prop where
  p : PX w A B q r Q
  g : ∀ k, A k ∨ B k → base ≤ k
def forkS : ByteArray := ⟨#[102, 111, 114, 107]⟩
set_option maxHeartbeats 8000000 in
theorem plays_t (first : Int) (room : Nat) (a : Option Addr) (n cap : Nat) (w : World) (h0 : 0 ≤ first) (h1 : first ≤ 4294967295) (r0 : 1 ≤ room) (r1 : room ≤ 3000) (hr : Flat.Rows w a n 5 [.i, .i, .i, .s, .b]) (hz : n < 1000000000000000) :
    Calls Try.prog 3 #[.int .i64 first, .int .i64 (room : Int), .slice a n cap] w fun e w' => e = .returned (.bool true) ∧ Below w.heap.size w w' := by
  have HA : Hid (Flat.Rows w a n 5 [.i, .i, .i, .s, .b]) := hr
  clear hr
  have hrI : ¬ (3000 : Int) < (room : Int) := by omega
  go_enter Try.func3, Try.ntmps3
  go_wp2_with fail
  refine (new_t first room w h0 h1 r0 (by omega)).mono ?_
  rintro e w1 ⟨rfl, hX1, hb1⟩
  generalize hq : w.heap.size + 1 = q at *
  clear hq
  go_wp2_with fail
  refine (rnew_t first room w1 h0 h1 r0 (by omega)).mono ?_
  rintro e w2 ⟨r, rfl, hY2, hb2⟩
  have hs1 := hb1.size
  have hP2 : LX w2 w.heap.size q r (fun k => w.heap.size ≤ k ∧ k < w1.heap.size) (fun k => w1.heap.size ≤ k ∧ k < w2.heap.size) (emptyQ room first) := ⟨⟨hX1.later hb2, hY2, emptyQ_fine h0 h1 r0 (by omega), fun k e1 e2 => by omega⟩, fun k e => by omega⟩
  have hbw2 := bt hb1 hb2
  clear hX1 hY2 hb1 hb2
  go_wp2_with fail
  refine (works_any w2).mono ?_
  rintro e w3 ⟨rfl, hb3⟩
  have HP3 : Hid (∃ A B Q, LX w3 w.heap.size q r A B Q) := ⟨_, _, _, hP2.p.later hb3, hP2.g⟩
  have hbw3 := bt hbw2 hb3
  clear hP2 hbw2 hb3 hs1
  go_wp2_with fail
  try go_frame
  go_loopw [11] (fun s11 wr => ∃ (i : Nat), i ≤ n ∧ s11 = .int .i64 (i : Int) ∧ Hid (∃ A B Q, LX wr w.heap.size q r A B Q) ∧ Below w.heap.size w wr) (fun s11 _ => n - (RowKit.intOf s11).toNat)
  case atStart => exact ⟨0, Nat.zero_le _, rfl, HP3, hbw3⟩
  case round =>
    clear HP3 hbw3
    obtain ⟨i, hi, rfl, HP, hb⟩ := hrel
    go_upto_region 8 with fail
    go_cut [58] from 47 to 57 (fun s58 W => s58 = .bool (decide (i < n ∧ i < 60)) ∧ W = wr)
    case first =>
      by_cases z0 : i < n
      · have z2 : (i : Int) < (n : Int) := by omega
        by_cases z1 : i < 60
        · have z3 : (i : Int) < 60 := by omega
          go_wp2
          go_meet
          case rel => exact ⟨by rw [decide_eq_true ⟨z0, z1⟩], rfl⟩
        · have z3 : ¬ (i : Int) < 60 := by omega
          go_wp2
          go_meet
          case rel => exact ⟨by rw [decide_eq_false (fun h => z1 h.2)], rfl⟩
      · have z2 : ¬ (i : Int) < (n : Int) := by omega
        go_wp2
        go_meet
        case rel => exact ⟨by rw [decide_eq_false (fun h => z0 h.1)], rfl⟩
    case rest =>
    obtain ⟨rfl, hw4⟩ := hcut
    subst hw4
    obtain ⟨wr, hw4⟩ : ∃ x, x = wc := ⟨wc, rfl⟩
    subst hw4
    by_cases hlt : i < n ∧ i < 60
    rotate_left
    · rw [decide_eq_false hlt]
      clear hlt
      go_wp2
      go_ret
      exact ⟨rfl, hb⟩
    rw [decide_eq_true hlt]
    obtain ⟨ab, off, rfl, hrow⟩ : ∃ b off, a = some ⟨b, off, none⟩ ∧ ∀ k, k < n → ∃ cs : List Value, Flat.Ok [.i, .i, .i, .s, .b] cs ∧ ∀ j v, cs[j]? = some v → w.cell? ⟨b, off + k * 5 + j, none⟩ = some v := by
      rcases HA.out with h | h
      · omega
      · exact h
    obtain ⟨cs, ⟨hcl, hck⟩, hcc⟩ := hrow i hlt.1
    clear hrow
    match cs, hcl with
    | [v0, v1, v2, v3, v4], _ =>
    obtain ⟨kd, rfl, wkd⟩ := hck 0 _ _ rfl rfl
    obtain ⟨av, rfl, wav⟩ := hck 1 _ _ rfl rfl
    obtain ⟨nn, rfl, wnn⟩ := hck 2 _ _ rfl rfl
    obtain ⟨t, rfl, wt⟩ := hck 3 _ _ rfl rfl
    obtain ⟨nr, rfl⟩ := hck 4 _ _ rfl rfl
    have x0 : ∀ W, Below w.heap.size w W → W.cell? ⟨ab, off + i * 5, none⟩ = some (.int .i64 kd) := fun W hW => later hW (hcc 0 _ rfl)
    have x1 : ∀ W, Below w.heap.size w W → W.cell? ⟨ab, off + i * 5 + 1, none⟩ = some (.int .i64 av) := fun W hW => later hW (hcc 1 _ rfl)
    have x2 : ∀ W, Below w.heap.size w W → W.cell? ⟨ab, off + i * 5 + 2, none⟩ = some (.int .i64 nn) := fun W hW => later hW (hcc 2 _ rfl)
    have x3 : ∀ W, Below w.heap.size w W → W.cell? ⟨ab, off + i * 5 + 3, none⟩ = some (.string t) := fun W hW => later hW (hcc 3 _ rfl)
    have x4 : ∀ W, Below w.heap.size w W → W.cell? ⟨ab, off + i * 5 + 4, none⟩ = some (.bool nr) := fun W hW => later hW (hcc 4 _ rfl)
    clear hcc hck
    have hk1 : (i : Int) < (n : Int) := by omega
    have hk3 : (0 : Int) ≤ (i : Int) := by omega
    have y3 := x3 wr hb
    have hin := hlt.1
    clear hlt
    by_cases hbig : 2000 < t.size
    · have hbI : (2000 : Int) < (t.size : Int) := by omega
      go_wp2
      go_roundw
      case rel => exact ⟨i + 1, by omega, by first | rfl | simp, HP, hb⟩
      case measure => first | omega | (simp only [RowKit.intOf]; omega) | (simp [RowKit.intOf]; omega)
    have hbI : ¬ (2000 : Int) < (t.size : Int) := by omega
    obtain ⟨A, B, Q, hL⟩ := HP.out
    have hp := hL.p
    have hbs := hb.size
    have hlA := hp.x.lw
    have hlB := hp.y.lw
    clear HP y3
    go_wp2_with fail
    refine (fork_any hp.x hp.f).mono ?_
    rintro e w4 ⟨rfl, hG4, hb4⟩
    have hp4 := hp.later hb4
    have hbw4 := bt hb hb4
    have hs4 := hb4.size
    generalize hgz : wr.heap.size = g at *
    have y30 := x3 w4 hbw4
    have hrf : ∀ W, Below w4.heap.size w4 W → Calls Try.prog 12 #[PQ r] W fun e w' => ∃ z, e = .returned (PQ z) ∧ RX w' (fun k => W.heap.size ≤ k ∧ k < w'.heap.size) z Q ∧ Below W.heap.size W w' := fun W hW => rfork_any (hp4.y.later hW) hp4.f
    go_upto_region 12 with fail
    clear y30
    have HD4 : Hid (Below w4.heap.size w4 w4.drew) := (Below.refl _ _).drew
    refine wp_region_held_drew (S := (fun W => Below w.heap.size w W)) (by kernel_rfl) ?_ (fun hHeld => ?_)
    · first | exact hbw4.drew | assumption
    refine wpAnyH_take (i := 0) (oi := ({ dst := some 70, op := Go.Op.move (Go.Operand.tmp 12), type := 24, pos := "law.go:60", after := #[], guard := none } : Go.Oper)) (v := .pointer (some ⟨g, 0, none⟩)) rfl (by kernel_rfl) (by kernel_rfl) (by kernel_rfl) (fun _ _ _ h => h) (Or.inl ⟨by rfl, ?_⟩) (by assumption) ?_
    · intro wx hSw
      try dsimp only at hSw
      have u0 := x0 wx hSw
      have u1 := x1 wx hSw
      have u2 := x2 wx hSw
      have u3 := x3 wx hSw
      have u4 := x4 wx hSw
      go_simp
      try with_reducible rfl
    try simp only [Act.put, List.setIfInBounds_toArray, List.set_cons_zero, List.set_cons_succ]
    refine wpAnyH_take (i := 1) (oi := ({ dst := some 71, op := Go.Op.binOp Go.BinOp.eql 24 (Go.Operand.tmp 70) (Go.Operand.const (Go.Value.pointer none)) 24, type := 4, pos := "law.go:60", after := #[{ on := 0, ground := Go.Ground.data }], guard := none } : Go.Oper)) (v := .bool false) rfl (by kernel_rfl) (by kernel_rfl) (by kernel_rfl) (fun _ _ _ h => h) (Or.inl ⟨by rfl, ?_⟩) (by assumption) ?_
    · intro wx hSw
      try dsimp only at hSw
      have u0 := x0 wx hSw
      have u1 := x1 wx hSw
      have u2 := x2 wx hSw
      have u3 := x3 wx hSw
      have u4 := x4 wx hSw
      go_simp
      try with_reducible rfl
    try simp only [Act.put, List.setIfInBounds_toArray, List.set_cons_zero, List.set_cons_succ]
    refine wpAnyH_take (i := 2) (oi := ({ dst := some 72, op := Go.Op.move (Go.Operand.tmp 71), type := 4, pos := "law.go:60", after := #[{ on := 1, ground := Go.Ground.data }], guard := none } : Go.Oper)) (v := .bool false) rfl (by kernel_rfl) (by kernel_rfl) (by kernel_rfl) (fun _ _ _ h => h) (Or.inl ⟨by rfl, ?_⟩) (by assumption) ?_
    · intro wx hSw
      try dsimp only at hSw
      have u0 := x0 wx hSw
      have u1 := x1 wx hSw
      have u2 := x2 wx hSw
      have u3 := x3 wx hSw
      have u4 := x4 wx hSw
      go_simp
      try with_reducible rfl
    try simp only [Act.put, List.setIfInBounds_toArray, List.set_cons_zero, List.set_cons_succ]
    refine wpAnyH_take (i := 3) (oi := ({ dst := some 73, op := Go.Op.move (Go.Operand.tmp 12), type := 24, pos := "law.go:60", after := #[{ on := 2, ground := Go.Ground.guard }], guard := some (2, false) } : Go.Oper)) (v := .pointer (some ⟨g, 0, none⟩)) rfl (by kernel_rfl) (by kernel_rfl) (by kernel_rfl) (fun _ _ _ h => h) (Or.inl ⟨by rfl, ?_⟩) (by assumption) ?_
    · intro wx hSw
      try dsimp only at hSw
      have u0 := x0 wx hSw
      have u1 := x1 wx hSw
      have u2 := x2 wx hSw
      have u3 := x3 wx hSw
      have u4 := x4 wx hSw
      go_simp
      try with_reducible rfl
    try simp only [Act.put, List.setIfInBounds_toArray, List.set_cons_zero, List.set_cons_succ]
    refine wpAnyH_take (i := 4) (oi := ({ dst := some 74, op := Go.Op.move (Go.Operand.tmp 9), type := 28, pos := "law.go:60", after := #[{ on := 2, ground := Go.Ground.guard }], guard := some (2, false) } : Go.Oper)) (v := .pointer (some ⟨r, 0, none⟩)) rfl (by kernel_rfl) (by kernel_rfl) (by kernel_rfl) (fun _ _ _ h => h) (Or.inl ⟨by rfl, ?_⟩) (by assumption) ?_
    · intro wx hSw
      try dsimp only at hSw
      have u0 := x0 wx hSw
      have u1 := x1 wx hSw
      have u2 := x2 wx hSw
      have u3 := x3 wx hSw
      have u4 := x4 wx hSw
      go_simp
      try with_reducible rfl
    try simp only [Act.put, List.setIfInBounds_toArray, List.set_cons_zero, List.set_cons_succ]
    refine wpAnyH_take (i := 6) (oi := ({ dst := some 76, op := Go.Op.move (Go.Operand.tmp 2), type := 22, pos := "law.go:60", after := #[{ on := 2, ground := Go.Ground.guard }], guard := some (2, false) } : Go.Oper)) (v := .slice (some ⟨ab, off, none⟩) n cap) rfl (by kernel_rfl) (by kernel_rfl) (by kernel_rfl) (fun _ _ _ h => h) (Or.inl ⟨by rfl, ?_⟩) (by assumption) ?_
    · intro wx hSw
      try dsimp only at hSw
      have u0 := x0 wx hSw
      have u1 := x1 wx hSw
      have u2 := x2 wx hSw
      have u3 := x3 wx hSw
      have u4 := x4 wx hSw
      go_simp
      try with_reducible rfl
    try simp only [Act.put, List.setIfInBounds_toArray, List.set_cons_zero, List.set_cons_succ]
    refine wpAnyH_take (i := 7) (oi := ({ dst := some 77, op := Go.Op.move (Go.Operand.tmp 11), type := 3, pos := "law.go:60", after := #[{ on := 2, ground := Go.Ground.guard }], guard := some (2, false) } : Go.Oper)) (v := .int .i64 (i : Int)) rfl (by kernel_rfl) (by kernel_rfl) (by kernel_rfl) (fun _ _ _ h => h) (Or.inl ⟨by rfl, ?_⟩) (by assumption) ?_
    · intro wx hSw
      try dsimp only at hSw
      have u0 := x0 wx hSw
      have u1 := x1 wx hSw
      have u2 := x2 wx hSw
      have u3 := x3 wx hSw
      have u4 := x4 wx hSw
      go_simp
      try with_reducible rfl
    try simp only [Act.put, List.setIfInBounds_toArray, List.set_cons_zero, List.set_cons_succ]
    refine wpAnyH_take (i := 8) (oi := ({ dst := some 78, op := Go.Op.indexAddr 22 (Go.Operand.tmp 76) (Go.Operand.tmp 77), type := 0, pos := "law.go:60", after := #[{ on := 6, ground := Go.Ground.data }, { on := 7, ground := Go.Ground.data }, { on := 2, ground := Go.Ground.guard }], guard := some (2, false) } : Go.Oper)) (v := .pointer (some ⟨ab, off + i * 5, none⟩)) rfl (by kernel_rfl) (by kernel_rfl) (by kernel_rfl) (fun _ _ _ h => h) (Or.inl ⟨by rfl, ?_⟩) (by assumption) ?_
    · intro wx hSw
      try dsimp only at hSw
      have u0 := x0 wx hSw
      have u1 := x1 wx hSw
      have u2 := x2 wx hSw
      have u3 := x3 wx hSw
      have u4 := x4 wx hSw
      go_simp
      try with_reducible rfl
    try simp only [Act.put, List.setIfInBounds_toArray, List.set_cons_zero, List.set_cons_succ]
    refine wpAnyH_take (i := 9) (oi := ({ dst := some 79, op := Go.Op.load 32 (Go.Operand.tmp 78), type := 32, pos := "law.go:60", after := #[{ on := 8, ground := Go.Ground.data }, { on := 2, ground := Go.Ground.guard }], guard := some (2, false) } : Go.Oper)) (v := .agg #[.int .i64 kd, .int .i64 av, .int .i64 nn, .string t, .bool nr]) rfl (by kernel_rfl) (by kernel_rfl) (by kernel_rfl) (fun _ _ _ h => h) (Or.inl ⟨by rfl, ?_⟩) (by assumption) ?_
    · intro wx hSw
      try dsimp only at hSw
      have u0 := x0 wx hSw
      have u1 := x1 wx hSw
      have u2 := x2 wx hSw
      have u3 := x3 wx hSw
      have u4 := x4 wx hSw
      go_simp
      try with_reducible rfl
    try simp only [Act.put, List.setIfInBounds_toArray, List.set_cons_zero, List.set_cons_succ]
    refine wpAnyH_ready (rs := [5]) (by kernel_rfl) (by simp) ?_
    refine AllReadyH.cons (o := ({ dst := some 75, op := Go.Op.call { callee := Go.Callee.value (Go.Operand.func 12), args := #[Go.Operand.tmp 74], argTypes := #[28] }, type := 28, pos := "law.go:60", after := #[{ on := 4, ground := Go.Ground.data }, { on := 2, ground := Go.Ground.chain }, { on := 2, ground := Go.Ground.guard }], guard := some (2, false) } : Go.Oper)) rfl (fun K hK => ?_) AllReadyH.nil
    go_simp
    refine (hrf _ HD4.out).mono ?_
    rintro e w5 ⟨z, rfl, hZ5, hb5⟩
    have hb45 := bt HD4.out hb5
    have hs5 := hb45.size
    have hdz : w4.drew.heap.size = w4.heap.size := rfl
    rw [hdz] at hZ5
    have hPg : PX w5 (fun k => g ≤ k ∧ k < w4.heap.size) (fun k => w4.heap.size ≤ k ∧ k < w5.heap.size) g z Q := ⟨hG4.later hb45, hZ5, hp4.f, fun k e1 e2 => by omega⟩
    refine hK.out _ _ (bt hbw4 hb45) (fun hHeld => ?_)
    clear hK K
    try simp only [Act.put, List.setIfInBounds_toArray, List.set_cons_zero, List.set_cons_succ]
    refine wpAnyH_ready (rs := [10]) (by kernel_rfl) (by simp) ?_
    refine AllReadyH.cons (o := ({ dst := some 80, op := Go.Op.call { callee := Go.Callee.value (Go.Operand.func 11), args := #[Go.Operand.tmp 73, Go.Operand.tmp 75, Go.Operand.tmp 79], argTypes := #[24, 28, 32] }, type := 4, pos := "law.go:60", after := #[{ on := 3, ground := Go.Ground.data }, { on := 5, ground := Go.Ground.data }, { on := 9, ground := Go.Ground.data }, { on := 5, ground := Go.Ground.chain }, { on := 2, ground := Go.Ground.guard }], guard := some (2, false) } : Go.Oper)) rfl (fun K hK => ?_) AllReadyH.nil
    go_simp
    refine (step_any hPg kd av nn t nr (by omega)).mono ?_
    rintro e w6 ⟨rfl, G6, Z6, Q6, hPg6, ht6, hgG6, hgZ6⟩
    have hbw5 := bt hbw4 hb45
    have hbw6 : Below w.heap.size w w6 := hbw5.trans (ht6.below hbw5.size (fun k hk e => by omega))
    have hp6 : PX w6 A B q r Q := (hp4.later hb45).turn ht6 (fun k e1 e2 => by have := hlA k e2; omega) (fun k e1 e2 => by have := hlB k e2; omega)
    have hG6ge : ∀ k, G6 k → g ≤ k := fun k hk => by rcases hgG6 k hk with e | e; exact e.1; omega
    have hs6 := ht6.size
    refine hK.out _ _ hbw6 (fun hHeld => ?_)
    clear hK K
    try simp only [Act.put, List.setIfInBounds_toArray, List.set_cons_zero, List.set_cons_succ]
    refine wpAnyH_take (i := 11) (oi := ({ dst := some 81, op := Go.Op.unOp Go.UnOp.not 4 (Go.Operand.tmp 80), type := 4, pos := "law.go:60", after := #[{ on := 10, ground := Go.Ground.data }, { on := 2, ground := Go.Ground.guard }], guard := some (2, false) } : Go.Oper)) (v := .bool false) rfl (by kernel_rfl) (by kernel_rfl) (by kernel_rfl) (fun _ _ _ h => h) (Or.inl ⟨by rfl, ?_⟩) (by assumption) ?_
    · intro wx hSw
      try dsimp only at hSw
      have u0 := x0 wx hSw
      have u1 := x1 wx hSw
      have u2 := x2 wx hSw
      have u3 := x3 wx hSw
      have u4 := x4 wx hSw
      go_simp
      try with_reducible rfl
    try simp only [Act.put, List.setIfInBounds_toArray, List.set_cons_zero, List.set_cons_succ]
    refine wpAnyH_take (i := 12) (oi := ({ dst := some 82, op := Go.Op.pick (Go.Operand.tmp 72) (Go.Operand.const (Go.Value.bool true)) (Go.Operand.tmp 81), type := 4, pos := "law.go:60", after := #[{ on := 2, ground := Go.Ground.data }, { on := 11, ground := Go.Ground.data }], guard := none } : Go.Oper)) (v := .bool false) rfl (by kernel_rfl) (by kernel_rfl) (by kernel_rfl) (fun _ _ _ h => h) (Or.inl ⟨by rfl, ?_⟩) (by assumption) ?_
    · intro wx hSw
      try dsimp only at hSw
      have u0 := x0 wx hSw
      have u1 := x1 wx hSw
      have u2 := x2 wx hSw
      have u3 := x3 wx hSw
      have u4 := x4 wx hSw
      go_simp
      try with_reducible rfl
    try simp only [Act.put, List.setIfInBounds_toArray, List.set_cons_zero, List.set_cons_succ]
    refine wpAnyH_take (i := 13) (oi := ({ dst := some 83, op := Go.Op.move (Go.Operand.tmp 82), type := 4, pos := "law.go:60", after := #[{ on := 12, ground := Go.Ground.data }, { on := 10, ground := Go.Ground.chain }], guard := none } : Go.Oper)) (v := .bool false) rfl (by kernel_rfl) (by kernel_rfl) (by kernel_rfl) (fun _ _ _ h => h) (Or.inl ⟨by rfl, ?_⟩) (by assumption) ?_
    · intro wx hSw
      try dsimp only at hSw
      have u0 := x0 wx hSw
      have u1 := x1 wx hSw
      have u2 := x2 wx hSw
      have u3 := x3 wx hSw
      have u4 := x4 wx hSw
      go_simp
      try with_reducible rfl
    try simp only [Act.put, List.setIfInBounds_toArray, List.set_cons_zero, List.set_cons_succ]
    refine wpAnyH_take (i := 14) (oi := ({ dst := some 84, op := Go.Op.move (Go.Operand.tmp 7), type := 24, pos := "law.go:60", after := #[{ on := 13, ground := Go.Ground.guard }], guard := some (13, false) } : Go.Oper)) (v := .pointer (some ⟨q, 0, none⟩)) rfl (by kernel_rfl) (by kernel_rfl) (by kernel_rfl) (fun _ _ _ h => h) (Or.inl ⟨by rfl, ?_⟩) (by assumption) ?_
    · intro wx hSw
      try dsimp only at hSw
      have u0 := x0 wx hSw
      have u1 := x1 wx hSw
      have u2 := x2 wx hSw
      have u3 := x3 wx hSw
      have u4 := x4 wx hSw
      go_simp
      try with_reducible rfl
    try simp only [Act.put, List.setIfInBounds_toArray, List.set_cons_zero, List.set_cons_succ]
    refine wpAnyH_take (i := 15) (oi := ({ dst := some 85, op := Go.Op.move (Go.Operand.tmp 9), type := 28, pos := "law.go:60", after := #[{ on := 13, ground := Go.Ground.guard }], guard := some (13, false) } : Go.Oper)) (v := .pointer (some ⟨r, 0, none⟩)) rfl (by kernel_rfl) (by kernel_rfl) (by kernel_rfl) (fun _ _ _ h => h) (Or.inl ⟨by rfl, ?_⟩) (by assumption) ?_
    · intro wx hSw
      try dsimp only at hSw
      have u0 := x0 wx hSw
      have u1 := x1 wx hSw
      have u2 := x2 wx hSw
      have u3 := x3 wx hSw
      have u4 := x4 wx hSw
      go_simp
      try with_reducible rfl
    try simp only [Act.put, List.setIfInBounds_toArray, List.set_cons_zero, List.set_cons_succ]
    refine wpAnyH_take (i := 16) (oi := ({ dst := some 86, op := Go.Op.move (Go.Operand.tmp 2), type := 22, pos := "law.go:60", after := #[{ on := 13, ground := Go.Ground.guard }], guard := some (13, false) } : Go.Oper)) (v := .slice (some ⟨ab, off, none⟩) n cap) rfl (by kernel_rfl) (by kernel_rfl) (by kernel_rfl) (fun _ _ _ h => h) (Or.inl ⟨by rfl, ?_⟩) (by assumption) ?_
    · intro wx hSw
      try dsimp only at hSw
      have u0 := x0 wx hSw
      have u1 := x1 wx hSw
      have u2 := x2 wx hSw
      have u3 := x3 wx hSw
      have u4 := x4 wx hSw
      go_simp
      try with_reducible rfl
    try simp only [Act.put, List.setIfInBounds_toArray, List.set_cons_zero, List.set_cons_succ]
    refine wpAnyH_take (i := 17) (oi := ({ dst := some 87, op := Go.Op.move (Go.Operand.tmp 11), type := 3, pos := "law.go:60", after := #[{ on := 13, ground := Go.Ground.guard }], guard := some (13, false) } : Go.Oper)) (v := .int .i64 (i : Int)) rfl (by kernel_rfl) (by kernel_rfl) (by kernel_rfl) (fun _ _ _ h => h) (Or.inl ⟨by rfl, ?_⟩) (by assumption) ?_
    · intro wx hSw
      try dsimp only at hSw
      have u0 := x0 wx hSw
      have u1 := x1 wx hSw
      have u2 := x2 wx hSw
      have u3 := x3 wx hSw
      have u4 := x4 wx hSw
      go_simp
      try with_reducible rfl
    try simp only [Act.put, List.setIfInBounds_toArray, List.set_cons_zero, List.set_cons_succ]
    refine wpAnyH_take (i := 18) (oi := ({ dst := some 88, op := Go.Op.indexAddr 22 (Go.Operand.tmp 86) (Go.Operand.tmp 87), type := 0, pos := "law.go:60", after := #[{ on := 16, ground := Go.Ground.data }, { on := 17, ground := Go.Ground.data }, { on := 13, ground := Go.Ground.guard }], guard := some (13, false) } : Go.Oper)) (v := .pointer (some ⟨ab, off + i * 5, none⟩)) rfl (by kernel_rfl) (by kernel_rfl) (by kernel_rfl) (fun _ _ _ h => h) (Or.inl ⟨by rfl, ?_⟩) (by assumption) ?_
    · intro wx hSw
      try dsimp only at hSw
      have u0 := x0 wx hSw
      have u1 := x1 wx hSw
      have u2 := x2 wx hSw
      have u3 := x3 wx hSw
      have u4 := x4 wx hSw
      go_simp
      try with_reducible rfl
    try simp only [Act.put, List.setIfInBounds_toArray, List.set_cons_zero, List.set_cons_succ]
    refine wpAnyH_take (i := 19) (oi := ({ dst := some 89, op := Go.Op.load 32 (Go.Operand.tmp 88), type := 32, pos := "law.go:60", after := #[{ on := 18, ground := Go.Ground.data }, { on := 13, ground := Go.Ground.guard }], guard := some (13, false) } : Go.Oper)) (v := .agg #[.int .i64 kd, .int .i64 av, .int .i64 nn, .string t, .bool nr]) rfl (by kernel_rfl) (by kernel_rfl) (by kernel_rfl) (fun _ _ _ h => h) (Or.inl ⟨by rfl, ?_⟩) (by assumption) ?_
    · intro wx hSw
      try dsimp only at hSw
      have u0 := x0 wx hSw
      have u1 := x1 wx hSw
      have u2 := x2 wx hSw
      have u3 := x3 wx hSw
      have u4 := x4 wx hSw
      go_simp
      try with_reducible rfl
    try simp only [Act.put, List.setIfInBounds_toArray, List.set_cons_zero, List.set_cons_succ]
    refine wpAnyH_ready (rs := [20]) (by kernel_rfl) (by simp) ?_
    refine AllReadyH.cons (o := ({ dst := some 90, op := Go.Op.call { callee := Go.Callee.value (Go.Operand.func 11), args := #[Go.Operand.tmp 84, Go.Operand.tmp 85, Go.Operand.tmp 89], argTypes := #[24, 28, 32] }, type := 4, pos := "law.go:60", after := #[{ on := 14, ground := Go.Ground.data }, { on := 15, ground := Go.Ground.data }, { on := 19, ground := Go.Ground.data }, { on := 13, ground := Go.Ground.chain }, { on := 13, ground := Go.Ground.guard }], guard := some (13, false) } : Go.Oper)) rfl (fun K hK => ?_) AllReadyH.nil
    go_simp
    refine (step_any hp6 kd av nn t nr (by omega)).mono ?_
    rintro e w7 ⟨rfl, A7, B7, Q7, hp7, ht7, hgA7, hgB7⟩
    have hbw7 : Below w.heap.size w w7 := hbw6.trans (ht7.below hbw6.size (fun k hk e => by have := hL.g k e; omega))
    refine hK.out _ _ hbw7 (fun hHeld => ?_)
    clear hK K
    try simp only [Act.put, List.setIfInBounds_toArray, List.set_cons_zero, List.set_cons_succ]
    refine wpAnyH_take (i := 21) (oi := ({ dst := some 91, op := Go.Op.unOp Go.UnOp.not 4 (Go.Operand.tmp 90), type := 4, pos := "law.go:60", after := #[{ on := 20, ground := Go.Ground.data }, { on := 13, ground := Go.Ground.guard }], guard := some (13, false) } : Go.Oper)) (v := .bool false) rfl (by kernel_rfl) (by kernel_rfl) (by kernel_rfl) (fun _ _ _ h => h) (Or.inl ⟨by rfl, ?_⟩) (by assumption) ?_
    · intro wx hSw
      try dsimp only at hSw
      have u0 := x0 wx hSw
      have u1 := x1 wx hSw
      have u2 := x2 wx hSw
      have u3 := x3 wx hSw
      have u4 := x4 wx hSw
      go_simp
      try with_reducible rfl
    try simp only [Act.put, List.setIfInBounds_toArray, List.set_cons_zero, List.set_cons_succ]
    refine wpAnyH_take (i := 22) (oi := ({ dst := some 92, op := Go.Op.pick (Go.Operand.tmp 83) (Go.Operand.const (Go.Value.bool true)) (Go.Operand.tmp 91), type := 4, pos := "law.go:60", after := #[{ on := 13, ground := Go.Ground.data }, { on := 21, ground := Go.Ground.data }], guard := none } : Go.Oper)) (v := .bool false) rfl (by kernel_rfl) (by kernel_rfl) (by kernel_rfl) (fun _ _ _ h => h) (Or.inl ⟨by rfl, ?_⟩) (by assumption) ?_
    · intro wx hSw
      try dsimp only at hSw
      have u0 := x0 wx hSw
      have u1 := x1 wx hSw
      have u2 := x2 wx hSw
      have u3 := x3 wx hSw
      have u4 := x4 wx hSw
      go_simp
      try with_reducible rfl
    try simp only [Act.put, List.setIfInBounds_toArray, List.set_cons_zero, List.set_cons_succ]
    refine wpAnyH_done (by kernel_rfl) ?_ _
    have HL7 : Hid (∀ k, A7 k ∨ B7 k → w.heap.size ≤ k) := fun k hk => by
      rcases hk with e | e
      · rcases hgA7 k e with e | e
        · exact hL.g k (Or.inl e)
        · have := hbw6.size; omega
      · rcases hgB7 k e with e | e
        · exact hL.g k (Or.inr e)
        · have := hbw6.size; omega
    have hx7 : QX w7 G6 g Q6 := hPg6.x.turn ht7 (fun k e1 e2 => by
      have h9 := hG6ge k e2
      rcases e1 with e | e
      · have := hlA k e; omega
      · have := hlB k e; omega)
    have hfg6 := hPg6.f
    have hlG6 := hPg6.x.lw
    have hd1 : Dj G6 A7 := fun k e1 e2 => by
      have h9 := hG6ge k e1
      have h8 := hlG6 k e1
      rcases hgA7 k e2 with e | e
      · have := hlA k e; omega
      · omega
    have hd2 : Dj G6 B7 := fun k e1 e2 => by
      have h9 := hG6ge k e1
      have h8 := hlG6 k e1
      rcases hgB7 k e2 with e | e
      · have := hlB k e; omega
      · omega
    have hgw : w.heap.size ≤ g := by omega
    have hn7 : 0 ≤ Q7.next ∧ Q7.next ≤ 4294967295 := ⟨hp7.f.n0, hp7.f.n1⟩
    have rn : w7.cell? ⟨r, 0, none⟩ = some (.int .i64 Q7.next) := by obtain ⟨vh, vb, h⟩ := hp7.y; exact (h.at5.2 0 _ rfl).1
    have HG6 : Hid (∀ k, G6 k → g ≤ k) := hG6ge
    clear hgA7 hgB7 hlA hlB hL ht7 hp6 hPg6 hgG6 hgZ6 ht6 hPg hZ5 hp4 hp hG4 hrf hlG6 hG6ge
    go_wp2_with fail
    refine (put_ok hx7 hfg6 Q7.next ⟨#[102, 111, 114, 107]⟩ (by decide) hn7.1 hn7.2).mono ?_
    rintro e w8 ⟨L8, A8, rfl, -, -, -, ht8, -⟩
    have hp8 := hp7.turn ht8 hd1 hd2
    have hbw8 : Below w.heap.size w w8 := hbw7.trans (ht8.below hbw7.size (fun k hk e => by have := HG6.out k e; omega))
    clear hx7 hd1 hd2 rn hp7 ht8 hbw7
    have y2 := x2 w8 hbw8
    go_wp2_with fail
    refine (apart_any hp8.x hp8.f nn).mono ?_
    rintro e w9 ⟨vl, rfl, hRl, hb9⟩
    have hp9 := hp8.later hb9
    have hbw9 := bt hbw8 hb9
    have hrl := hRl.rv
    have HL9 : Hid (LX w9 w.heap.size q r A7 B7 Q7) := ⟨hp9, HL7.out⟩
    clear y2 hp8 hb9 hbw8 hRl HL7
    have hal : ∀ m, (apartL Q7 m).length ≤ 100000 := fun m => by
      unfold apartL
      rw [List.length_map, List.length_take]
      have h9 := fold_len (offs Q7) []
      have h8 : (offs Q7).length ≤ Q7.room := by unfold offs; refine Nat.le_trans (List.length_filter_le _ _) ?_; rw [List.length_range]; exact Nat.le_refl _
      have h7 := hp9.f.r1
      unfold strL
      simp at h9
      omega
    have hnx : ∀ W, Below w9.heap.size w9 W → Calls Try.prog 15 #[PQ q] W fun e w' => e = .returned (.int .i64 Q7.next) ∧ w' = W := fun W hW => next_any (hp9.x.later hW)
    have hwn : ∀ W, Below w9.heap.size w9 W → Calls Try.prog 16 #[PQ q] W fun e w' => e = .returned (.int .i64 ((Q7.room - Q7.bs.length : Nat) : Int)) ∧ Below W.heap.size W w' := fun W hW => window_any (hp9.x.later hW) hp9.f
    have hrw : ∀ W, Below w9.heap.size w9 W → Calls Try.prog 17 #[PQ r] W fun e w' => e = .returned (.int .i64 ((Q7.room - Q7.bs.length : Nat) : Int)) ∧ Below W.heap.size W w' := fun W hW => rwindow_any (hp9.y.later hW) hp9.f
    have hry : ∀ W, Below w9.heap.size w9 W → Calls Try.prog 18 #[PQ q] W fun e w' => e = .returned (.int .i64 (Q7.bs.length : Int)) ∧ w' = W := fun W hW => ready_any (hp9.x.later hW)
    have hqa : ∀ m W, Below w9.heap.size w9 W → Calls Try.prog 14 #[PQ q, .int .i64 m] W fun e w' => ∃ v, e = .returned v ∧ RV w' v (apartL Q7 m) ∧ Below W.heap.size W w' := fun m W hW => (apart_any (hp9.x.later hW) hp9.f m).mono (fun e w' ⟨v, h1, h2, h3⟩ => ⟨v, h1, h2.rv, h3⟩)
    have hra : ∀ m W, Below w9.heap.size w9 W → Calls Try.prog 20 #[PQ r, .int .i64 m] W fun e w' => ∃ v, e = .returned v ∧ RV w' v (apartL Q7 m) ∧ Below W.heap.size W w' := fun m W hW => (rapart_any (hp9.y.later hW) hp9.f m).mono (fun e w' ⟨v, h1, h2, h3⟩ => ⟨v, h1, h2.rv, h3⟩)
    obtain ⟨rc0, rc2⟩ : (∀ W, Below w9.heap.size w9 W → W.cell? ⟨r, 0, none⟩ = some (.int .i64 Q7.next)) ∧ (∀ W, Below w9.heap.size w9 W → W.cell? ⟨r, 2, none⟩ = some (.string (strB Q7.bs))) := by
      obtain ⟨vh, vb, h⟩ := hp9.y
      exact ⟨fun W hW => later hW (h.at5.2 0 _ rfl).1, fun W hW => later hW (h.at5.2 2 _ rfl).1⟩
    have xc : ∀ W, Below w9.heap.size w9 W → W.cell? ⟨ab, off + i * 5 + 2, none⟩ = some (.int .i64 nn) := fun W hW => x2 W (bt hbw9 hW)
    have hsz : (strB Q7.bs).size = Q7.bs.length := strB_size _
    obtain ⟨ss, hss⟩ : ∃ x, x = strB Q7.bs := ⟨_, rfl⟩
    rw [← hss] at rc2 hsz
    have hne : ((Q7.bs.length : Int) != (ss.size : Int)) = false := by rw [hsz]; simp
    obtain ⟨wi, hwi⟩ : ∃ x, x = ((Q7.room - Q7.bs.length : Nat) : Int) := ⟨_, rfl⟩
    rw [← hwi] at hwn hrw
    obtain ⟨ln, hln⟩ : ∃ x, x = (Q7.bs.length : Int) := ⟨_, rfl⟩
    rw [← hln] at hry hne
    clear hsz hss hwi hln x0 x1 x2 x3 x4
    go_upto_region 16 with fail
    refine wp_region_held_drew (S := (fun W => Below w9.heap.size w9 W)) (by kernel_rfl) ?_ (fun hHeld => ?_)
    · first | exact (Below.refl _ _).drew | assumption
    refine wpAnyH_take (i := 0) (oi := ({ dst := some 106, op := Go.Op.move (Go.Operand.tmp 7), type := 24, pos := "law.go:65", after := #[], guard := none } : Go.Oper)) (v := .pointer (some ⟨q, 0, none⟩)) rfl (by kernel_rfl) (by kernel_rfl) (by kernel_rfl) (fun _ _ _ h => h) (Or.inl ⟨by rfl, ?_⟩) (by assumption) ?_
    · intro wx hSw
      try dsimp only at hSw
      have u0 := rc0 wx hSw
      have u2 := rc2 wx hSw
      have u5 := xc wx hSw
      go_simp
      try with_reducible rfl
    try simp only [Act.put, List.setIfInBounds_toArray, List.set_cons_zero, List.set_cons_succ]
    refine wpAnyH_take (i := 2) (oi := ({ dst := some 108, op := Go.Op.move (Go.Operand.tmp 9), type := 28, pos := "law.go:65", after := #[], guard := none } : Go.Oper)) (v := .pointer (some ⟨r, 0, none⟩)) rfl (by kernel_rfl) (by kernel_rfl) (by kernel_rfl) (fun _ _ _ h => h) (Or.inl ⟨by rfl, ?_⟩) (by assumption) ?_
    · intro wx hSw
      try dsimp only at hSw
      have u0 := rc0 wx hSw
      have u2 := rc2 wx hSw
      have u5 := xc wx hSw
      go_simp
      try with_reducible rfl
    try simp only [Act.put, List.setIfInBounds_toArray, List.set_cons_zero, List.set_cons_succ]
    refine wpAnyH_take (i := 3) (oi := ({ dst := some 109, op := Go.Op.nilCheck (Go.Operand.tmp 108), type := 0, pos := "law.go:65", after := #[{ on := 2, ground := Go.Ground.data }], guard := none } : Go.Oper)) (v := .pointer (some ⟨r, 0, none⟩)) rfl (by kernel_rfl) (by kernel_rfl) (by kernel_rfl) (fun _ _ _ h => h) (Or.inl ⟨by rfl, ?_⟩) (by assumption) ?_
    · intro wx hSw
      try dsimp only at hSw
      have u0 := rc0 wx hSw
      have u2 := rc2 wx hSw
      have u5 := xc wx hSw
      go_simp
      try with_reducible rfl
    try simp only [Act.put, List.setIfInBounds_toArray, List.set_cons_zero, List.set_cons_succ]
    refine wpAnyH_take (i := 4) (oi := ({ dst := some 110, op := Go.Op.fieldAddr 41 (Go.Operand.tmp 109) 0, type := 0, pos := "law.go:65", after := #[{ on := 3, ground := Go.Ground.data }], guard := none } : Go.Oper)) (v := .pointer (some ⟨r, 0, none⟩)) rfl (by kernel_rfl) (by kernel_rfl) (by kernel_rfl) (fun _ _ _ h => h) (Or.inl ⟨by rfl, ?_⟩) (by assumption) ?_
    · intro wx hSw
      try dsimp only at hSw
      have u0 := rc0 wx hSw
      have u2 := rc2 wx hSw
      have u5 := xc wx hSw
      go_simp
      try with_reducible rfl
    try simp only [Act.put, List.setIfInBounds_toArray, List.set_cons_zero, List.set_cons_succ]
    refine wpAnyH_take (i := 5) (oi := ({ dst := some 111, op := Go.Op.load 3 (Go.Operand.tmp 110), type := 3, pos := "law.go:65", after := #[{ on := 4, ground := Go.Ground.data }], guard := none } : Go.Oper)) (v := .int .i64 Q7.next) rfl (by kernel_rfl) (by kernel_rfl) (by kernel_rfl) (fun _ _ _ h => h) (Or.inl ⟨by rfl, ?_⟩) (by assumption) ?_
    · intro wx hSw
      try dsimp only at hSw
      have u0 := rc0 wx hSw
      have u2 := rc2 wx hSw
      have u5 := xc wx hSw
      go_simp
      try with_reducible rfl
    try simp only [Act.put, List.setIfInBounds_toArray, List.set_cons_zero, List.set_cons_succ]
    refine wpAnyH_ready (rs := [1]) (by kernel_rfl) (by simp) ?_
    refine AllReadyH.cons (o := ({ dst := some 107, op := Go.Op.call { callee := Go.Callee.value (Go.Operand.func 15), args := #[Go.Operand.tmp 106], argTypes := #[24] }, type := 3, pos := "law.go:65", after := #[{ on := 0, ground := Go.Ground.data }], guard := none } : Go.Oper)) rfl (fun K hK => ?_) AllReadyH.nil
    go_simp
    refine (hnx _ hHeld).mono ?_
    rintro e wy ⟨rfl, hwy⟩
    subst hwy
    refine hK.out _ _ hHeld (fun hHeld => ?_)
    clear hK K
    try simp only [Act.put, List.setIfInBounds_toArray, List.set_cons_zero, List.set_cons_succ]
    refine wpAnyH_take (i := 6) (oi := ({ dst := some 112, op := Go.Op.binOp Go.BinOp.neq 3 (Go.Operand.tmp 107) (Go.Operand.tmp 111) 3, type := 4, pos := "law.go:65", after := #[{ on := 1, ground := Go.Ground.data }, { on := 5, ground := Go.Ground.data }], guard := none } : Go.Oper)) (v := .bool false) rfl (by kernel_rfl) (by kernel_rfl) (by kernel_rfl) (fun _ _ _ h => h) (Or.inl ⟨by rfl, ?_⟩) (by assumption) ?_
    · intro wx hSw
      try dsimp only at hSw
      have u0 := rc0 wx hSw
      have u2 := rc2 wx hSw
      have u5 := xc wx hSw
      go_simp
      try with_reducible rfl
    try simp only [Act.put, List.setIfInBounds_toArray, List.set_cons_zero, List.set_cons_succ]
    refine wpAnyH_take (i := 7) (oi := ({ dst := some 113, op := Go.Op.move (Go.Operand.tmp 112), type := 4, pos := "law.go:65", after := #[{ on := 6, ground := Go.Ground.data }, { on := 1, ground := Go.Ground.chain }], guard := none } : Go.Oper)) (v := .bool false) rfl (by kernel_rfl) (by kernel_rfl) (by kernel_rfl) (fun _ _ _ h => h) (Or.inl ⟨by rfl, ?_⟩) (by assumption) ?_
    · intro wx hSw
      try dsimp only at hSw
      have u0 := rc0 wx hSw
      have u2 := rc2 wx hSw
      have u5 := xc wx hSw
      go_simp
      try with_reducible rfl
    try simp only [Act.put, List.setIfInBounds_toArray, List.set_cons_zero, List.set_cons_succ]
    refine wpAnyH_take (i := 8) (oi := ({ dst := some 114, op := Go.Op.move (Go.Operand.tmp 7), type := 24, pos := "law.go:65", after := #[{ on := 7, ground := Go.Ground.guard }], guard := some (7, false) } : Go.Oper)) (v := .pointer (some ⟨q, 0, none⟩)) rfl (by kernel_rfl) (by kernel_rfl) (by kernel_rfl) (fun _ _ _ h => h) (Or.inl ⟨by rfl, ?_⟩) (by assumption) ?_
    · intro wx hSw
      try dsimp only at hSw
      have u0 := rc0 wx hSw
      have u2 := rc2 wx hSw
      have u5 := xc wx hSw
      go_simp
      try with_reducible rfl
    try simp only [Act.put, List.setIfInBounds_toArray, List.set_cons_zero, List.set_cons_succ]
    refine wpAnyH_take (i := 10) (oi := ({ dst := some 116, op := Go.Op.move (Go.Operand.tmp 9), type := 28, pos := "law.go:65", after := #[{ on := 7, ground := Go.Ground.guard }], guard := some (7, false) } : Go.Oper)) (v := .pointer (some ⟨r, 0, none⟩)) rfl (by kernel_rfl) (by kernel_rfl) (by kernel_rfl) (fun _ _ _ h => h) (Or.inl ⟨by rfl, ?_⟩) (by assumption) ?_
    · intro wx hSw
      try dsimp only at hSw
      have u0 := rc0 wx hSw
      have u2 := rc2 wx hSw
      have u5 := xc wx hSw
      go_simp
      try with_reducible rfl
    try simp only [Act.put, List.setIfInBounds_toArray, List.set_cons_zero, List.set_cons_succ]
    refine wpAnyH_ready (rs := [9]) (by kernel_rfl) (by simp) ?_
    refine AllReadyH.cons (o := ({ dst := some 115, op := Go.Op.call { callee := Go.Callee.value (Go.Operand.func 16), args := #[Go.Operand.tmp 114], argTypes := #[24] }, type := 3, pos := "law.go:65", after := #[{ on := 8, ground := Go.Ground.data }, { on := 7, ground := Go.Ground.chain }, { on := 7, ground := Go.Ground.guard }], guard := some (7, false) } : Go.Oper)) rfl (fun K hK => ?_) AllReadyH.nil
    go_simp
    refine (hwn _ hHeld).mono ?_
    rintro e wy ⟨rfl, hby⟩
    refine hK.out _ _ (bt hHeld hby) (fun hHeld => ?_)
    clear hK K
    try simp only [Act.put, List.setIfInBounds_toArray, List.set_cons_zero, List.set_cons_succ]
    refine wpAnyH_ready (rs := [11]) (by kernel_rfl) (by simp) ?_
    refine AllReadyH.cons (o := ({ dst := some 117, op := Go.Op.call { callee := Go.Callee.value (Go.Operand.func 17), args := #[Go.Operand.tmp 116], argTypes := #[28] }, type := 3, pos := "law.go:65", after := #[{ on := 10, ground := Go.Ground.data }, { on := 9, ground := Go.Ground.chain }, { on := 7, ground := Go.Ground.guard }], guard := some (7, false) } : Go.Oper)) rfl (fun K hK => ?_) AllReadyH.nil
    go_simp
    refine (hrw _ hHeld).mono ?_
    rintro e wy ⟨rfl, hby⟩
    refine hK.out _ _ (bt hHeld hby) (fun hHeld => ?_)
    clear hK K
    try simp only [Act.put, List.setIfInBounds_toArray, List.set_cons_zero, List.set_cons_succ]
    refine wpAnyH_take (i := 12) (oi := ({ dst := some 118, op := Go.Op.binOp Go.BinOp.neq 3 (Go.Operand.tmp 115) (Go.Operand.tmp 117) 3, type := 4, pos := "law.go:65", after := #[{ on := 9, ground := Go.Ground.data }, { on := 11, ground := Go.Ground.data }, { on := 7, ground := Go.Ground.guard }], guard := some (7, false) } : Go.Oper)) (v := .bool false) rfl (by kernel_rfl) (by kernel_rfl) (by kernel_rfl) (fun _ _ _ h => h) (Or.inl ⟨by rfl, ?_⟩) (by assumption) ?_
    · intro wx hSw
      try dsimp only at hSw
      have u0 := rc0 wx hSw
      have u2 := rc2 wx hSw
      have u5 := xc wx hSw
      go_simp
      try with_reducible rfl
    try simp only [Act.put, List.setIfInBounds_toArray, List.set_cons_zero, List.set_cons_succ]
    refine wpAnyH_take (i := 13) (oi := ({ dst := some 119, op := Go.Op.pick (Go.Operand.tmp 113) (Go.Operand.const (Go.Value.bool true)) (Go.Operand.tmp 118), type := 4, pos := "law.go:65", after := #[{ on := 7, ground := Go.Ground.data }, { on := 12, ground := Go.Ground.data }], guard := none } : Go.Oper)) (v := .bool false) rfl (by kernel_rfl) (by kernel_rfl) (by kernel_rfl) (fun _ _ _ h => h) (Or.inl ⟨by rfl, ?_⟩) (by assumption) ?_
    · intro wx hSw
      try dsimp only at hSw
      have u0 := rc0 wx hSw
      have u2 := rc2 wx hSw
      have u5 := xc wx hSw
      go_simp
      try with_reducible rfl
    try simp only [Act.put, List.setIfInBounds_toArray, List.set_cons_zero, List.set_cons_succ]
    refine wpAnyH_take (i := 14) (oi := ({ dst := some 120, op := Go.Op.move (Go.Operand.tmp 119), type := 4, pos := "law.go:65", after := #[{ on := 13, ground := Go.Ground.data }, { on := 11, ground := Go.Ground.chain }], guard := none } : Go.Oper)) (v := .bool false) rfl (by kernel_rfl) (by kernel_rfl) (by kernel_rfl) (fun _ _ _ h => h) (Or.inl ⟨by rfl, ?_⟩) (by assumption) ?_
    · intro wx hSw
      try dsimp only at hSw
      have u0 := rc0 wx hSw
      have u2 := rc2 wx hSw
      have u5 := xc wx hSw
      go_simp
      try with_reducible rfl
    try simp only [Act.put, List.setIfInBounds_toArray, List.set_cons_zero, List.set_cons_succ]
    refine wpAnyH_take (i := 15) (oi := ({ dst := some 121, op := Go.Op.move (Go.Operand.tmp 7), type := 24, pos := "law.go:65", after := #[{ on := 14, ground := Go.Ground.guard }], guard := some (14, false) } : Go.Oper)) (v := .pointer (some ⟨q, 0, none⟩)) rfl (by kernel_rfl) (by kernel_rfl) (by kernel_rfl) (fun _ _ _ h => h) (Or.inl ⟨by rfl, ?_⟩) (by assumption) ?_
    · intro wx hSw
      try dsimp only at hSw
      have u0 := rc0 wx hSw
      have u2 := rc2 wx hSw
      have u5 := xc wx hSw
      go_simp
      try with_reducible rfl
    try simp only [Act.put, List.setIfInBounds_toArray, List.set_cons_zero, List.set_cons_succ]
    refine wpAnyH_take (i := 17) (oi := ({ dst := some 123, op := Go.Op.move (Go.Operand.tmp 9), type := 28, pos := "law.go:65", after := #[{ on := 14, ground := Go.Ground.guard }], guard := some (14, false) } : Go.Oper)) (v := .pointer (some ⟨r, 0, none⟩)) rfl (by kernel_rfl) (by kernel_rfl) (by kernel_rfl) (fun _ _ _ h => h) (Or.inl ⟨by rfl, ?_⟩) (by assumption) ?_
    · intro wx hSw
      try dsimp only at hSw
      have u0 := rc0 wx hSw
      have u2 := rc2 wx hSw
      have u5 := xc wx hSw
      go_simp
      try with_reducible rfl
    try simp only [Act.put, List.setIfInBounds_toArray, List.set_cons_zero, List.set_cons_succ]
    refine wpAnyH_take (i := 18) (oi := ({ dst := some 124, op := Go.Op.nilCheck (Go.Operand.tmp 123), type := 0, pos := "law.go:65", after := #[{ on := 17, ground := Go.Ground.data }, { on := 14, ground := Go.Ground.guard }], guard := some (14, false) } : Go.Oper)) (v := .pointer (some ⟨r, 0, none⟩)) rfl (by kernel_rfl) (by kernel_rfl) (by kernel_rfl) (fun _ _ _ h => h) (Or.inl ⟨by rfl, ?_⟩) (by assumption) ?_
    · intro wx hSw
      try dsimp only at hSw
      have u0 := rc0 wx hSw
      have u2 := rc2 wx hSw
      have u5 := xc wx hSw
      go_simp
      try with_reducible rfl
    try simp only [Act.put, List.setIfInBounds_toArray, List.set_cons_zero, List.set_cons_succ]
    refine wpAnyH_take (i := 19) (oi := ({ dst := some 125, op := Go.Op.fieldAddr 41 (Go.Operand.tmp 124) 2, type := 0, pos := "law.go:65", after := #[{ on := 18, ground := Go.Ground.data }, { on := 14, ground := Go.Ground.guard }], guard := some (14, false) } : Go.Oper)) (v := .pointer (some ⟨r, 2, none⟩)) rfl (by kernel_rfl) (by kernel_rfl) (by kernel_rfl) (fun _ _ _ h => h) (Or.inl ⟨by rfl, ?_⟩) (by assumption) ?_
    · intro wx hSw
      try dsimp only at hSw
      have u0 := rc0 wx hSw
      have u2 := rc2 wx hSw
      have u5 := xc wx hSw
      go_simp
      try with_reducible rfl
    try simp only [Act.put, List.setIfInBounds_toArray, List.set_cons_zero, List.set_cons_succ]
    refine wpAnyH_take (i := 20) (oi := ({ dst := some 126, op := Go.Op.load 9 (Go.Operand.tmp 125), type := 9, pos := "law.go:65", after := #[{ on := 19, ground := Go.Ground.data }, { on := 14, ground := Go.Ground.guard }], guard := some (14, false) } : Go.Oper)) (v := .string ss) rfl (by kernel_rfl) (by kernel_rfl) (by kernel_rfl) (fun _ _ _ h => h) (Or.inl ⟨by rfl, ?_⟩) (by assumption) ?_
    · intro wx hSw
      try dsimp only at hSw
      have u0 := rc0 wx hSw
      have u2 := rc2 wx hSw
      have u5 := xc wx hSw
      go_simp
      try with_reducible rfl
    try simp only [Act.put, List.setIfInBounds_toArray, List.set_cons_zero, List.set_cons_succ]
    refine wpAnyH_take (i := 21) (oi := ({ dst := some 127, op := Go.Op.call { callee := Go.Callee.builtin Go.Builtin.len, args := #[Go.Operand.tmp 126], argTypes := #[9] }, type := 3, pos := "law.go:65", after := #[{ on := 20, ground := Go.Ground.data }, { on := 14, ground := Go.Ground.guard }], guard := some (14, false) } : Go.Oper)) (v := .int .i64 (ss.size : Int)) rfl (by kernel_rfl) (by kernel_rfl) (by kernel_rfl) (fun _ _ _ h => h) (Or.inl ⟨by rfl, ?_⟩) (by assumption) ?_
    · intro wx hSw
      try dsimp only at hSw
      have u0 := rc0 wx hSw
      have u2 := rc2 wx hSw
      have u5 := xc wx hSw
      go_simp
      try with_reducible rfl
    try simp only [Act.put, List.setIfInBounds_toArray, List.set_cons_zero, List.set_cons_succ]
    refine wpAnyH_ready (rs := [16]) (by kernel_rfl) (by simp) ?_
    refine AllReadyH.cons (o := ({ dst := some 122, op := Go.Op.call { callee := Go.Callee.value (Go.Operand.func 18), args := #[Go.Operand.tmp 121], argTypes := #[24] }, type := 3, pos := "law.go:65", after := #[{ on := 15, ground := Go.Ground.data }, { on := 14, ground := Go.Ground.chain }, { on := 14, ground := Go.Ground.guard }], guard := some (14, false) } : Go.Oper)) rfl (fun K hK => ?_) AllReadyH.nil
    go_simp
    refine (hry _ hHeld).mono ?_
    rintro e wy ⟨rfl, hwy⟩
    subst hwy
    refine hK.out _ _ hHeld (fun hHeld => ?_)
    clear hK K
    try simp only [Act.put, List.setIfInBounds_toArray, List.set_cons_zero, List.set_cons_succ]
    refine wpAnyH_take (i := 22) (oi := ({ dst := some 128, op := Go.Op.binOp Go.BinOp.neq 3 (Go.Operand.tmp 122) (Go.Operand.tmp 127) 3, type := 4, pos := "law.go:65", after := #[{ on := 16, ground := Go.Ground.data }, { on := 21, ground := Go.Ground.data }, { on := 14, ground := Go.Ground.guard }], guard := some (14, false) } : Go.Oper)) (v := .bool false) rfl (by kernel_rfl) (by kernel_rfl) (by kernel_rfl) (fun _ _ _ h => h) (Or.inl ⟨by rfl, ?_⟩) (by assumption) ?_
    · intro wx hSw
      try dsimp only at hSw
      have u0 := rc0 wx hSw
      have u2 := rc2 wx hSw
      have u5 := xc wx hSw
      go_simp
      try with_reducible rfl
    try simp only [Act.put, List.setIfInBounds_toArray, List.set_cons_zero, List.set_cons_succ]
    refine wpAnyH_take (i := 23) (oi := ({ dst := some 129, op := Go.Op.pick (Go.Operand.tmp 120) (Go.Operand.const (Go.Value.bool true)) (Go.Operand.tmp 128), type := 4, pos := "law.go:65", after := #[{ on := 14, ground := Go.Ground.data }, { on := 22, ground := Go.Ground.data }], guard := none } : Go.Oper)) (v := .bool false) rfl (by kernel_rfl) (by kernel_rfl) (by kernel_rfl) (fun _ _ _ h => h) (Or.inl ⟨by rfl, ?_⟩) (by assumption) ?_
    · intro wx hSw
      try dsimp only at hSw
      have u0 := rc0 wx hSw
      have u2 := rc2 wx hSw
      have u5 := xc wx hSw
      go_simp
      try with_reducible rfl
    try simp only [Act.put, List.setIfInBounds_toArray, List.set_cons_zero, List.set_cons_succ]
    refine wpAnyH_take (i := 24) (oi := ({ dst := some 130, op := Go.Op.move (Go.Operand.tmp 129), type := 4, pos := "law.go:65", after := #[{ on := 23, ground := Go.Ground.data }, { on := 16, ground := Go.Ground.chain }], guard := none } : Go.Oper)) (v := .bool false) rfl (by kernel_rfl) (by kernel_rfl) (by kernel_rfl) (fun _ _ _ h => h) (Or.inl ⟨by rfl, ?_⟩) (by assumption) ?_
    · intro wx hSw
      try dsimp only at hSw
      have u0 := rc0 wx hSw
      have u2 := rc2 wx hSw
      have u5 := xc wx hSw
      go_simp
      try with_reducible rfl
    try simp only [Act.put, List.setIfInBounds_toArray, List.set_cons_zero, List.set_cons_succ]
    refine wpAnyH_take (i := 25) (oi := ({ dst := some 131, op := Go.Op.move (Go.Operand.tmp 13), type := 42, pos := "law.go:65", after := #[{ on := 24, ground := Go.Ground.guard }], guard := some (24, false) } : Go.Oper)) (v := vl) rfl (by kernel_rfl) (by kernel_rfl) (by kernel_rfl) (fun _ _ _ h => h) (Or.inl ⟨by rfl, ?_⟩) (by assumption) ?_
    · intro wx hSw
      try dsimp only at hSw
      have u0 := rc0 wx hSw
      have u2 := rc2 wx hSw
      have u5 := xc wx hSw
      go_simp
      try with_reducible rfl
    try simp only [Act.put, List.setIfInBounds_toArray, List.set_cons_zero, List.set_cons_succ]
    refine wpAnyH_take (i := 26) (oi := ({ dst := some 132, op := Go.Op.move (Go.Operand.tmp 9), type := 28, pos := "law.go:65", after := #[{ on := 24, ground := Go.Ground.guard }], guard := some (24, false) } : Go.Oper)) (v := .pointer (some ⟨r, 0, none⟩)) rfl (by kernel_rfl) (by kernel_rfl) (by kernel_rfl) (fun _ _ _ h => h) (Or.inl ⟨by rfl, ?_⟩) (by assumption) ?_
    · intro wx hSw
      try dsimp only at hSw
      have u0 := rc0 wx hSw
      have u2 := rc2 wx hSw
      have u5 := xc wx hSw
      go_simp
      try with_reducible rfl
    try simp only [Act.put, List.setIfInBounds_toArray, List.set_cons_zero, List.set_cons_succ]
    refine wpAnyH_take (i := 27) (oi := ({ dst := some 133, op := Go.Op.move (Go.Operand.tmp 2), type := 22, pos := "law.go:65", after := #[{ on := 24, ground := Go.Ground.guard }], guard := some (24, false) } : Go.Oper)) (v := .slice (some ⟨ab, off, none⟩) n cap) rfl (by kernel_rfl) (by kernel_rfl) (by kernel_rfl) (fun _ _ _ h => h) (Or.inl ⟨by rfl, ?_⟩) (by assumption) ?_
    · intro wx hSw
      try dsimp only at hSw
      have u0 := rc0 wx hSw
      have u2 := rc2 wx hSw
      have u5 := xc wx hSw
      go_simp
      try with_reducible rfl
    try simp only [Act.put, List.setIfInBounds_toArray, List.set_cons_zero, List.set_cons_succ]
    refine wpAnyH_take (i := 28) (oi := ({ dst := some 134, op := Go.Op.move (Go.Operand.tmp 11), type := 3, pos := "law.go:65", after := #[{ on := 24, ground := Go.Ground.guard }], guard := some (24, false) } : Go.Oper)) (v := .int .i64 (i : Int)) rfl (by kernel_rfl) (by kernel_rfl) (by kernel_rfl) (fun _ _ _ h => h) (Or.inl ⟨by rfl, ?_⟩) (by assumption) ?_
    · intro wx hSw
      try dsimp only at hSw
      have u0 := rc0 wx hSw
      have u2 := rc2 wx hSw
      have u5 := xc wx hSw
      go_simp
      try with_reducible rfl
    try simp only [Act.put, List.setIfInBounds_toArray, List.set_cons_zero, List.set_cons_succ]
    refine wpAnyH_take (i := 29) (oi := ({ dst := some 135, op := Go.Op.indexAddr 22 (Go.Operand.tmp 133) (Go.Operand.tmp 134), type := 0, pos := "law.go:65", after := #[{ on := 27, ground := Go.Ground.data }, { on := 28, ground := Go.Ground.data }, { on := 24, ground := Go.Ground.guard }], guard := some (24, false) } : Go.Oper)) (v := .pointer (some ⟨ab, off + i * 5, none⟩)) rfl (by kernel_rfl) (by kernel_rfl) (by kernel_rfl) (fun _ _ _ h => h) (Or.inl ⟨by rfl, ?_⟩) (by assumption) ?_
    · intro wx hSw
      try dsimp only at hSw
      have u0 := rc0 wx hSw
      have u2 := rc2 wx hSw
      have u5 := xc wx hSw
      go_simp
      try with_reducible rfl
    try simp only [Act.put, List.setIfInBounds_toArray, List.set_cons_zero, List.set_cons_succ]
    refine wpAnyH_take (i := 30) (oi := ({ dst := some 136, op := Go.Op.fieldAddr 32 (Go.Operand.tmp 135) 2, type := 0, pos := "law.go:65", after := #[{ on := 29, ground := Go.Ground.data }, { on := 24, ground := Go.Ground.guard }], guard := some (24, false) } : Go.Oper)) (v := .pointer (some ⟨ab, off + i * 5 + 2, none⟩)) rfl (by kernel_rfl) (by kernel_rfl) (by kernel_rfl) (fun _ _ _ h => h) (Or.inl ⟨by rfl, ?_⟩) (by assumption) ?_
    · intro wx hSw
      try dsimp only at hSw
      have u0 := rc0 wx hSw
      have u2 := rc2 wx hSw
      have u5 := xc wx hSw
      go_simp
      try with_reducible rfl
    try simp only [Act.put, List.setIfInBounds_toArray, List.set_cons_zero, List.set_cons_succ]
    refine wpAnyH_take (i := 31) (oi := ({ dst := some 137, op := Go.Op.load 3 (Go.Operand.tmp 136), type := 3, pos := "law.go:65", after := #[{ on := 30, ground := Go.Ground.data }, { on := 24, ground := Go.Ground.guard }], guard := some (24, false) } : Go.Oper)) (v := .int .i64 nn) rfl (by kernel_rfl) (by kernel_rfl) (by kernel_rfl) (fun _ _ _ h => h) (Or.inl ⟨by rfl, ?_⟩) (by assumption) ?_
    · intro wx hSw
      try dsimp only at hSw
      have u0 := rc0 wx hSw
      have u2 := rc2 wx hSw
      have u5 := xc wx hSw
      go_simp
      try with_reducible rfl
    try simp only [Act.put, List.setIfInBounds_toArray, List.set_cons_zero, List.set_cons_succ]
    refine wpAnyH_ready (rs := [32]) (by kernel_rfl) (by simp) ?_
    refine AllReadyH.cons (o := ({ dst := some 138, op := Go.Op.call { callee := Go.Callee.value (Go.Operand.func 20), args := #[Go.Operand.tmp 132, Go.Operand.tmp 137], argTypes := #[28, 3] }, type := 42, pos := "law.go:65", after := #[{ on := 26, ground := Go.Ground.data }, { on := 31, ground := Go.Ground.data }, { on := 24, ground := Go.Ground.chain }, { on := 24, ground := Go.Ground.guard }], guard := some (24, false) } : Go.Oper)) rfl (fun K hK => ?_) AllReadyH.nil
    go_simp
    refine (hra nn _ hHeld).mono ?_
    rintro e wy ⟨va, rfl, hRva, hby⟩
    refine hK.out _ _ (bt hHeld hby) (fun hHeld => ?_)
    clear hK K
    try simp only [Act.put, List.setIfInBounds_toArray, List.set_cons_zero, List.set_cons_succ]
    refine wpAnyH_ready (rs := [33]) (by kernel_rfl) (by simp) ?_
    refine AllReadyH.cons (o := ({ dst := some 139, op := Go.Op.call { callee := Go.Callee.value (Go.Operand.func 19), args := #[Go.Operand.tmp 131, Go.Operand.tmp 138], argTypes := #[42, 42] }, type := 4, pos := "law.go:65", after := #[{ on := 25, ground := Go.Ground.data }, { on := 32, ground := Go.Ground.data }, { on := 32, ground := Go.Ground.chain }, { on := 24, ground := Go.Ground.guard }], guard := some (24, false) } : Go.Oper)) rfl (fun K hK => ?_) AllReadyH.nil
    go_simp
    refine (same_any (hrl.later hHeld) hRva (hal nn)).mono ?_
    rintro e wy ⟨rfl, hby⟩
    refine hK.out _ _ (bt hHeld hby) (fun hHeld => ?_)
    clear hK K
    try simp only [Act.put, List.setIfInBounds_toArray, List.set_cons_zero, List.set_cons_succ]
    refine wpAnyH_take (i := 34) (oi := ({ dst := some 140, op := Go.Op.unOp Go.UnOp.not 4 (Go.Operand.tmp 139), type := 4, pos := "law.go:65", after := #[{ on := 33, ground := Go.Ground.data }, { on := 24, ground := Go.Ground.guard }], guard := some (24, false) } : Go.Oper)) (v := .bool false) rfl (by kernel_rfl) (by kernel_rfl) (by kernel_rfl) (fun _ _ _ h => h) (Or.inl ⟨by rfl, ?_⟩) (by assumption) ?_
    · intro wx hSw
      try dsimp only at hSw
      have u0 := rc0 wx hSw
      have u2 := rc2 wx hSw
      have u5 := xc wx hSw
      go_simp
      try with_reducible rfl
    try simp only [Act.put, List.setIfInBounds_toArray, List.set_cons_zero, List.set_cons_succ]
    refine wpAnyH_take (i := 35) (oi := ({ dst := some 141, op := Go.Op.pick (Go.Operand.tmp 130) (Go.Operand.const (Go.Value.bool true)) (Go.Operand.tmp 140), type := 4, pos := "law.go:65", after := #[{ on := 24, ground := Go.Ground.data }, { on := 34, ground := Go.Ground.data }], guard := none } : Go.Oper)) (v := .bool false) rfl (by kernel_rfl) (by kernel_rfl) (by kernel_rfl) (fun _ _ _ h => h) (Or.inl ⟨by rfl, ?_⟩) (by assumption) ?_
    · intro wx hSw
      try dsimp only at hSw
      have u0 := rc0 wx hSw
      have u2 := rc2 wx hSw
      have u5 := xc wx hSw
      go_simp
      try with_reducible rfl
    try simp only [Act.put, List.setIfInBounds_toArray, List.set_cons_zero, List.set_cons_succ]
    refine wpAnyH_take (i := 36) (oi := ({ dst := some 142, op := Go.Op.move (Go.Operand.tmp 141), type := 4, pos := "law.go:65", after := #[{ on := 35, ground := Go.Ground.data }, { on := 33, ground := Go.Ground.chain }], guard := none } : Go.Oper)) (v := .bool false) rfl (by kernel_rfl) (by kernel_rfl) (by kernel_rfl) (fun _ _ _ h => h) (Or.inl ⟨by rfl, ?_⟩) (by assumption) ?_
    · intro wx hSw
      try dsimp only at hSw
      have u0 := rc0 wx hSw
      have u2 := rc2 wx hSw
      have u5 := xc wx hSw
      go_simp
      try with_reducible rfl
    try simp only [Act.put, List.setIfInBounds_toArray, List.set_cons_zero, List.set_cons_succ]
    refine wpAnyH_take (i := 37) (oi := ({ dst := some 143, op := Go.Op.move (Go.Operand.tmp 7), type := 24, pos := "law.go:65", after := #[{ on := 36, ground := Go.Ground.guard }], guard := some (36, false) } : Go.Oper)) (v := .pointer (some ⟨q, 0, none⟩)) rfl (by kernel_rfl) (by kernel_rfl) (by kernel_rfl) (fun _ _ _ h => h) (Or.inl ⟨by rfl, ?_⟩) (by assumption) ?_
    · intro wx hSw
      try dsimp only at hSw
      have u0 := rc0 wx hSw
      have u2 := rc2 wx hSw
      have u5 := xc wx hSw
      go_simp
      try with_reducible rfl
    try simp only [Act.put, List.setIfInBounds_toArray, List.set_cons_zero, List.set_cons_succ]
    refine wpAnyH_take (i := 39) (oi := ({ dst := some 145, op := Go.Op.move (Go.Operand.tmp 9), type := 28, pos := "law.go:65", after := #[{ on := 36, ground := Go.Ground.guard }], guard := some (36, false) } : Go.Oper)) (v := .pointer (some ⟨r, 0, none⟩)) rfl (by kernel_rfl) (by kernel_rfl) (by kernel_rfl) (fun _ _ _ h => h) (Or.inl ⟨by rfl, ?_⟩) (by assumption) ?_
    · intro wx hSw
      try dsimp only at hSw
      have u0 := rc0 wx hSw
      have u2 := rc2 wx hSw
      have u5 := xc wx hSw
      go_simp
      try with_reducible rfl
    try simp only [Act.put, List.setIfInBounds_toArray, List.set_cons_zero, List.set_cons_succ]
    refine wpAnyH_ready (rs := [38]) (by kernel_rfl) (by simp) ?_
    refine AllReadyH.cons (o := ({ dst := some 144, op := Go.Op.call { callee := Go.Callee.value (Go.Operand.func 14), args := #[Go.Operand.tmp 143, Go.Operand.const (Go.Value.int Go.IntKind.i64 99)], argTypes := #[24, 3] }, type := 42, pos := "law.go:65", after := #[{ on := 37, ground := Go.Ground.data }, { on := 36, ground := Go.Ground.chain }, { on := 36, ground := Go.Ground.guard }], guard := some (36, false) } : Go.Oper)) rfl (fun K hK => ?_) AllReadyH.nil
    go_simp
    refine (hqa 99 _ hHeld).mono ?_
    rintro e wy ⟨vc, rfl, hRvc, hby⟩
    refine hK.out _ _ (bt hHeld hby) (fun hHeld => ?_)
    clear hK K
    try simp only [Act.put, List.setIfInBounds_toArray, List.set_cons_zero, List.set_cons_succ]
    refine wpAnyH_ready (rs := [40]) (by kernel_rfl) (by simp) ?_
    refine AllReadyH.cons (o := ({ dst := some 146, op := Go.Op.call { callee := Go.Callee.value (Go.Operand.func 20), args := #[Go.Operand.tmp 145, Go.Operand.const (Go.Value.int Go.IntKind.i64 99)], argTypes := #[28, 3] }, type := 42, pos := "law.go:65", after := #[{ on := 39, ground := Go.Ground.data }, { on := 38, ground := Go.Ground.chain }, { on := 36, ground := Go.Ground.guard }], guard := some (36, false) } : Go.Oper)) rfl (fun K hK => ?_) AllReadyH.nil
    go_simp
    refine (hra 99 _ hHeld).mono ?_
    rintro e wy ⟨vd, rfl, hRvd, hby⟩
    have hRvc := hRvc.later hby
    refine hK.out _ _ (bt hHeld hby) (fun hHeld => ?_)
    clear hK K
    try simp only [Act.put, List.setIfInBounds_toArray, List.set_cons_zero, List.set_cons_succ]
    refine wpAnyH_ready (rs := [41]) (by kernel_rfl) (by simp) ?_
    refine AllReadyH.cons (o := ({ dst := some 147, op := Go.Op.call { callee := Go.Callee.value (Go.Operand.func 19), args := #[Go.Operand.tmp 144, Go.Operand.tmp 146], argTypes := #[42, 42] }, type := 4, pos := "law.go:65", after := #[{ on := 38, ground := Go.Ground.data }, { on := 40, ground := Go.Ground.data }, { on := 40, ground := Go.Ground.chain }, { on := 36, ground := Go.Ground.guard }], guard := some (36, false) } : Go.Oper)) rfl (fun K hK => ?_) AllReadyH.nil
    go_simp
    refine (same_any hRvc hRvd (hal 99)).mono ?_
    rintro e wy ⟨rfl, hby⟩
    refine hK.out _ _ (bt hHeld hby) (fun hHeld => ?_)
    clear hK K
    try simp only [Act.put, List.setIfInBounds_toArray, List.set_cons_zero, List.set_cons_succ]
    refine wpAnyH_take (i := 42) (oi := ({ dst := some 148, op := Go.Op.unOp Go.UnOp.not 4 (Go.Operand.tmp 147), type := 4, pos := "law.go:65", after := #[{ on := 41, ground := Go.Ground.data }, { on := 36, ground := Go.Ground.guard }], guard := some (36, false) } : Go.Oper)) (v := .bool false) rfl (by kernel_rfl) (by kernel_rfl) (by kernel_rfl) (fun _ _ _ h => h) (Or.inl ⟨by rfl, ?_⟩) (by assumption) ?_
    · intro wx hSw
      try dsimp only at hSw
      have u0 := rc0 wx hSw
      have u2 := rc2 wx hSw
      have u5 := xc wx hSw
      go_simp
      try with_reducible rfl
    try simp only [Act.put, List.setIfInBounds_toArray, List.set_cons_zero, List.set_cons_succ]
    refine wpAnyH_take (i := 43) (oi := ({ dst := some 149, op := Go.Op.pick (Go.Operand.tmp 142) (Go.Operand.const (Go.Value.bool true)) (Go.Operand.tmp 148), type := 4, pos := "law.go:65", after := #[{ on := 36, ground := Go.Ground.data }, { on := 42, ground := Go.Ground.data }], guard := none } : Go.Oper)) (v := .bool false) rfl (by kernel_rfl) (by kernel_rfl) (by kernel_rfl) (fun _ _ _ h => h) (Or.inl ⟨by rfl, ?_⟩) (by assumption) ?_
    · intro wx hSw
      try dsimp only at hSw
      have u0 := rc0 wx hSw
      have u2 := rc2 wx hSw
      have u5 := xc wx hSw
      go_simp
      try with_reducible rfl
    try simp only [Act.put, List.setIfInBounds_toArray, List.set_cons_zero, List.set_cons_succ]
    refine wpAnyH_done (by kernel_rfl) ?_ _
    go_wp2
    go_roundw
    case rel => exact ⟨i + 1, by omega, by first | rfl | simp, ⟨_, _, _, HL9.out.p.later hHeld, HL9.out.g⟩, bt hbw9 hHeld⟩
    case measure => first | omega | (simp only [RowKit.intOf]; omega) | (simp [RowKit.intOf]; omega)
end Go.Proofs.Ytiglaalppaljbaa
