/- Both queues side by side; a step. -/
import Derived.Test.YtiglaalppaljbaaYd
import Derived.Test.YtiglaalppaljbaaYe
namespace Go.Proofs.Ytiglaalppaljbaa
open Go.RowKit Go.Maps Go.Lib
set_option maxRecDepth 100000
set_option linter.unusedVariables false
set_option linter.unusedSimpArgs false


structure PX (w : World) (A B : Bk) (q r : Nat) (Q : Rq) : Prop where
  x : QX w A q Q
  y : RX w B r Q
  f : Q.Fine
  d : Dj A B
theorem PX.turn {w w' : World} {A B C : Bk} {q r : Nat} {Q : Rq} (h : PX w A B q r Q) (ht : Turn C w w') (h1 : Dj C A) (h2 : Dj C B) : PX w' A B q r Q := ⟨h.x.turn ht h1, h.y.turn ht h2, h.f, h.d⟩
theorem PX.later {w w' : World} {A B : Bk} {q r : Nat} {Q : Rq} (h : PX w A B q r Q) (hb : Below w.heap.size w w') : PX w' A B q r Q := ⟨h.x.later hb, h.y.later hb, h.f, h.d⟩
theorem Gr.weak {n m : Nat} {A B : Bk} (h : Gr m A B) (hn : n ≤ m) : Gr n A B := fun k hk => (h k hk).imp id (fun e => Nat.le_trans hn e)
/-- One call of each. -/
theorem PX.both {w w1 w2 : World} {A B A1 B2 : Bk} {q r : Nat} {Q Q1 : Rq} (h : PX w A B q r Q) (hx : QX w1 A1 q Q1) (ht : Turn A w w1) (hg : Gr w.heap.size A A1) (hy : RX w2 B2 r Q1) (ht2 : Turn B w1 w2) (hg2 : Gr w1.heap.size B B2) (hf : Q1.Fine) :
    PX w2 A1 B2 q r Q1 ∧ Turn (fun k => A k ∨ B k) w w2 ∧ Gr w.heap.size A A1 ∧ Gr w.heap.size B B2 := by
  have hd1 : Dj A1 B := h.d.gr hg h.y.lw
  have hd2 : Dj B2 A1 := hd1.symm.gr (w := w1) hg2 hx.lw
  exact ⟨⟨hx.turn ht2 hd1.symm, hy, hf, hd2.symm⟩, (ht.mono (fun k e => Or.inl e)).trans (ht2.mono (fun k e => Or.inr e)), hg, hg2.weak ht.size⟩
set_option maxHeartbeats 4000000 in
theorem step_any {w : World} {A B : Bk} {q r : Nat} {Q : Rq} (hP : PX w A B q r Q) (kd at_ n : Int) (t : ByteArray) (near : Bool) (ht : t.size ≤ 2000) :
    Calls Try.prog 11 #[PQ q, PQ r, .agg #[.int .i64 kd, .int .i64 at_, .int .i64 n, .string t, .bool near]] w fun e w' => e = .returned (.bool true) ∧ ∃ A' B' Q', PX w' A' B' q r Q' ∧ Turn (fun k => A k ∨ B k) w w' ∧ Gr w.heap.size A A' ∧ Gr w.heap.size B B' := by
  have hbx := bel1 w (.cells #[.int .i64 kd, .int .i64 at_, .int .i64 n, .string t, .bool near] 32)
  have hBx := At.box w #[.int .i64 kd, .int .i64 at_, .int .i64 n, .string t, .bool near] 32
  have hP1 := hP.later hbx
  have hab : ¬ A w.heap.size ∧ ¬ B w.heap.size := ⟨fun e => by have := hP.x.lw _ e; omega, fun e => by have := hP.y.lw _ e; omega⟩
  have hbt : Turn (fun k => A k ∨ B k) w (w.alloc (.cells #[.int .i64 kd, .int .i64 at_, .int .i64 n, .string t, .bool near] 32)) := Turn.of_below hbx
  have hsz : w.heap.size ≤ (w.alloc (.cells #[.int .i64 kd, .int .i64 at_, .int .i64 n, .string t, .bool near] 32)).heap.size := hbx.size
  clear hP hbx
  go_enter Try.func11, Try.ntmps11
  go_upto_region 1 with fail
  have HG : Hid (∀ w' A' B' Q', PX w' A' B' q r Q' ∧ Turn (fun k => A k ∨ B k) (w.alloc (.cells #[.int .i64 kd, .int .i64 at_, .int .i64 n, .string t, .bool near] 32)) w' ∧ Gr (w.alloc (.cells #[.int .i64 kd, .int .i64 at_, .int .i64 n, .string t, .bool near] 32)).heap.size A A' ∧ Gr (w.alloc (.cells #[.int .i64 kd, .int .i64 at_, .int .i64 n, .string t, .bool near] 32)).heap.size B B' → ∃ A' B' Q', PX w' A' B' q r Q' ∧ Turn (fun k => A k ∨ B k) w w' ∧ Gr w.heap.size A A' ∧ Gr w.heap.size B B') :=
    fun w' A' B' Q' ⟨h1, h2, h3, h4⟩ => ⟨A', B', Q', h1, hbt.trans h2, h3.weak hsz, h4.weak hsz⟩
  clear hbt hsz
  generalize w.heap.size = ab at hBx hab ⊢
  generalize w.alloc (.cells #[.int .i64 kd, .int .i64 at_, .int .i64 n, .string t, .bool near] 32) = w1 at *
  have b0 : w1.cell? ⟨ab, 0, none⟩ = some (.int .i64 kd) := (hBx.2 0 _ rfl).1
  go_wp2_with fail
  refine (among_any kd 2 w1 (by decide) (by decide)).mono ?_
  rintro e wy ⟨rfl, hwy⟩
  subst hwy
  obtain ⟨w1, hw1⟩ : ∃ x, x = wy := ⟨wy, rfl⟩
  subst hw1
  obtain ⟨kk, hkk⟩ : ∃ x, x = kd % 2 := ⟨_, rfl⟩
  rw [← hkk]
  clear b0
  by_cases hk1 : kk = 1
  · have hke : (kk == 1) = true := by simpa using hk1
    clear hk1 hkk
    have hrd : ∀ W, Below w1.heap.size w1 W → Calls Try.prog 24 #[PQ q, .int .i64 n] W fun e w' => e = .returned (.string (strB (Q.bs.take (readN Q n)))) ∧ QX w' A q (readQ Q (readN Q n)) ∧ Turn A W w' := fun W hW => read_any (hP1.x.later hW) hP1.f n
    have hrr : ∀ W, RX W B r Q → Calls Try.prog 29 #[PQ r, .int .i64 n] W fun e w' => e = .returned (.string (strB (Q.bs.take (readN Q n)))) ∧ RX w' B r (readQ Q (readN Q n)) ∧ Turn B W w' := fun W hW => rread_any hW hP1.f n
    obtain ⟨st, hst⟩ : ∃ x, x = strB (Q.bs.take (readN Q n)) := ⟨_, rfl⟩
    rw [← hst] at hrd hrr
    clear hst
    have b2 : w1.drew.cell? ⟨ab, 2, none⟩ = some (.int .i64 n) := (hBx.2 2 _ rfl).1
    go_upto_region 2 with fail
    refine wp_region_held_drew (S := (fun W => W.cell? ⟨ab, 2, none⟩ = some (.int .i64 n))) (by kernel_rfl) ?_ (fun hHeld => ?_)
    · first | exact b2 | assumption
    refine wpAnyH_take (i := 0) (oi := ({ dst := some 16, op := Go.Op.move (Go.Operand.tmp 0), type := 24, pos := "law.go:34", after := #[], guard := none } : Go.Oper)) (v := .pointer (some ⟨q, 0, none⟩)) rfl (by kernel_rfl) (by kernel_rfl) (by kernel_rfl) (fun _ _ _ h => h) (Or.inl ⟨by rfl, ?_⟩) (by assumption) ?_
    · intro wx hSw
      try dsimp only at hSw
      have u2 := hSw
      go_simp
      try with_reducible rfl
    try simp only [Act.put, List.setIfInBounds_toArray, List.set_cons_zero, List.set_cons_succ]
    refine wpAnyH_take (i := 1) (oi := ({ dst := some 17, op := Go.Op.fieldAddr 32 (Go.Operand.tmp 5) 2, type := 0, pos := "law.go:34", after := #[], guard := none } : Go.Oper)) (v := .pointer (some ⟨ab, 2, none⟩)) rfl (by kernel_rfl) (by kernel_rfl) (by kernel_rfl) (fun _ _ _ h => h) (Or.inl ⟨by rfl, ?_⟩) (by assumption) ?_
    · intro wx hSw
      try dsimp only at hSw
      have u2 := hSw
      go_simp
      try with_reducible rfl
    try simp only [Act.put, List.setIfInBounds_toArray, List.set_cons_zero, List.set_cons_succ]
    refine wpAnyH_take (i := 2) (oi := ({ dst := some 18, op := Go.Op.load 3 (Go.Operand.tmp 17), type := 3, pos := "law.go:34", after := #[{ on := 1, ground := Go.Ground.data }], guard := none } : Go.Oper)) (v := .int .i64 n) rfl (by kernel_rfl) (by kernel_rfl) (by kernel_rfl) (fun _ _ _ h => h) (Or.inl ⟨by rfl, ?_⟩) (by assumption) ?_
    · intro wx hSw
      try dsimp only at hSw
      have u2 := hSw
      go_simp
      try with_reducible rfl
    try simp only [Act.put, List.setIfInBounds_toArray, List.set_cons_zero, List.set_cons_succ]
    refine wpAnyH_take (i := 4) (oi := ({ dst := some 20, op := Go.Op.move (Go.Operand.tmp 1), type := 28, pos := "law.go:34", after := #[], guard := none } : Go.Oper)) (v := .pointer (some ⟨r, 0, none⟩)) rfl (by kernel_rfl) (by kernel_rfl) (by kernel_rfl) (fun _ _ _ h => h) (Or.inl ⟨by rfl, ?_⟩) (by assumption) ?_
    · intro wx hSw
      try dsimp only at hSw
      have u2 := hSw
      go_simp
      try with_reducible rfl
    try simp only [Act.put, List.setIfInBounds_toArray, List.set_cons_zero, List.set_cons_succ]
    refine wpAnyH_take (i := 5) (oi := ({ dst := some 21, op := Go.Op.fieldAddr 32 (Go.Operand.tmp 5) 2, type := 0, pos := "law.go:34", after := #[], guard := none } : Go.Oper)) (v := .pointer (some ⟨ab, 2, none⟩)) rfl (by kernel_rfl) (by kernel_rfl) (by kernel_rfl) (fun _ _ _ h => h) (Or.inl ⟨by rfl, ?_⟩) (by assumption) ?_
    · intro wx hSw
      try dsimp only at hSw
      have u2 := hSw
      go_simp
      try with_reducible rfl
    try simp only [Act.put, List.setIfInBounds_toArray, List.set_cons_zero, List.set_cons_succ]
    refine wpAnyH_take (i := 6) (oi := ({ dst := some 22, op := Go.Op.load 3 (Go.Operand.tmp 21), type := 3, pos := "law.go:34", after := #[{ on := 5, ground := Go.Ground.data }], guard := none } : Go.Oper)) (v := .int .i64 n) rfl (by kernel_rfl) (by kernel_rfl) (by kernel_rfl) (fun _ _ _ h => h) (Or.inl ⟨by rfl, ?_⟩) (by assumption) ?_
    · intro wx hSw
      try dsimp only at hSw
      have u2 := hSw
      go_simp
      try with_reducible rfl
    try simp only [Act.put, List.setIfInBounds_toArray, List.set_cons_zero, List.set_cons_succ]
    refine wpAnyH_ready (rs := [3]) (by kernel_rfl) (by simp) ?_
    refine AllReadyH.cons (o := ({ dst := some 19, op := Go.Op.call { callee := Go.Callee.value (Go.Operand.func 24), args := #[Go.Operand.tmp 16, Go.Operand.tmp 18], argTypes := #[24, 3] }, type := 9, pos := "law.go:34", after := #[{ on := 0, ground := Go.Ground.data }, { on := 2, ground := Go.Ground.data }], guard := none } : Go.Oper)) rfl (fun K hK => ?_) AllReadyH.nil
    go_simp
    refine (hrd _ (Below.refl _ w1).drew).mono ?_
    rintro e w2 ⟨rfl, hx2, ht2⟩
    have HRD : Hid (QX w2 A q (readQ Q (readN Q n)) ∧ Turn A w1.drew w2) := ⟨hx2, ht2⟩
    have hBx2 := (hBx.later (Below.refl _ _).drew).turn ht2 hab.1
    refine hK.out _ _ ((hBx2.2 2 _ rfl).1) (fun hHeld => ?_)
    clear hK K
    try simp only [Act.put, List.setIfInBounds_toArray, List.set_cons_zero, List.set_cons_succ]
    refine wpAnyH_ready (rs := [7]) (by kernel_rfl) (by simp) ?_
    refine AllReadyH.cons (o := ({ dst := some 23, op := Go.Op.call { callee := Go.Callee.value (Go.Operand.func 29), args := #[Go.Operand.tmp 20, Go.Operand.tmp 22], argTypes := #[28, 3] }, type := 9, pos := "law.go:34", after := #[{ on := 4, ground := Go.Ground.data }, { on := 6, ground := Go.Ground.data }, { on := 3, ground := Go.Ground.chain }], guard := none } : Go.Oper)) rfl (fun K hK => ?_) AllReadyH.nil
    go_simp
    refine (hrr _ ((hP1.y.later (Below.refl _ w1).drew).turn HRD.out.2 hP1.d)).mono ?_
    rintro e w3 ⟨rfl, hx3, ht3⟩
    have HRR : Hid (RX w3 B r (readQ Q (readN Q n)) ∧ Turn B w2 w3) := ⟨hx3, ht3⟩
    have hBx3 := hBx2.turn ht3 hab.2
    refine hK.out _ _ ((hBx3.2 2 _ rfl).1) (fun hHeld => ?_)
    clear hK K
    try simp only [Act.put, List.setIfInBounds_toArray, List.set_cons_zero, List.set_cons_succ]
    refine wpAnyH_take (i := 8) (oi := ({ dst := some 24, op := Go.Op.binOp Go.BinOp.eql 9 (Go.Operand.tmp 19) (Go.Operand.tmp 23) 9, type := 4, pos := "law.go:34", after := #[{ on := 3, ground := Go.Ground.data }, { on := 7, ground := Go.Ground.data }], guard := none } : Go.Oper)) (v := .bool true) rfl (by kernel_rfl) (by kernel_rfl) (by kernel_rfl) (fun _ _ _ h => h) (Or.inl ⟨by rfl, ?_⟩) (by assumption) ?_
    · intro wx hSw
      try dsimp only at hSw
      have u2 := hSw
      go_simp
      try with_reducible rfl
    try simp only [Act.put, List.setIfInBounds_toArray, List.set_cons_zero, List.set_cons_succ]
    refine wpAnyH_take (i := 9) (oi := ({ dst := some 6, op := Go.Op.assign (Go.Operand.tmp 24), type := 4, pos := "law.go:34", after := #[{ on := 8, ground := Go.Ground.data }, { on := 7, ground := Go.Ground.chain }, { on := 0, ground := Go.Ground.phase }, { on := 1, ground := Go.Ground.phase }, { on := 2, ground := Go.Ground.phase }, { on := 3, ground := Go.Ground.phase }, { on := 4, ground := Go.Ground.phase }, { on := 5, ground := Go.Ground.phase }, { on := 6, ground := Go.Ground.phase }, { on := 7, ground := Go.Ground.phase }, { on := 8, ground := Go.Ground.phase }], guard := none } : Go.Oper)) (v := .bool true) rfl (by kernel_rfl) (by kernel_rfl) (by kernel_rfl) (fun _ _ _ h => h) (Or.inl ⟨by rfl, ?_⟩) (by assumption) ?_
    · intro wx hSw
      try dsimp only at hSw
      have u2 := hSw
      go_simp
      try with_reducible rfl
    try simp only [Act.put, List.setIfInBounds_toArray, List.set_cons_zero, List.set_cons_succ]
    refine wpAnyH_done (by kernel_rfl) ?_ _
    go_wp2
    go_ret
    obtain ⟨g1, g2, g3, g4⟩ := PX.both (hP1.later (Below.refl _ w1).drew) HRD.out.1 HRD.out.2 (Gr.refl _ _) HRR.out.1 HRR.out.2 (Gr.refl _ _) (readQ_fine hP1.f _)
    exact ⟨rfl, HG.out _ _ _ _ ⟨g1, g2.undrew, g3, g4⟩⟩
  · have hke : (kk == 1) = false := by simpa using hk1
    clear hk1 hkk
    have hBx1 := hBx
    have b1 : w1.cell? ⟨ab, 1, none⟩ = some (.int .i64 at_) := (hBx.2 1 _ rfl).1
    have b4 : w1.cell? ⟨ab, 4, none⟩ = some (.bool near) := (hBx.2 4 _ rfl).1
    have n0 := hP1.f.n0
    have n1 := hP1.f.n1
    have rn : w1.cell? ⟨r, 0, none⟩ = some (.int .i64 Q.next) := by obtain ⟨vh, vb, h⟩ := hP1.y; exact (h.at5.2 0 _ rfl).1
    go_upto_if 28 with fail
    go_cut [7] from 29 to 37 (fun s7 W => ∃ av, s7 = .int .i64 av ∧ Below w1.heap.size w1 W)
    case first =>
      cases near with
      | false =>
        go_wp2
        go_meet
        case rel => exact ⟨at_, rfl, Below.refl _ _⟩
      | true =>
        obtain ⟨-, tm1, tm2⟩ := tmod_round at_ 100000 (by omega)
        generalize htm : at_.tmod 100000 = tm at *
        have HTM : Hid (at_.tmod 100000 = tm) := htm
        have hc0 : ∀ W, Below w1.heap.size w1 W → W.cell? ⟨r, 0, none⟩ = some (.int .i64 Q.next) := fun W hW => later hW rn
        have hc1 : ∀ W, Below w1.heap.size w1 W → W.cell? ⟨ab, 1, none⟩ = some (.int .i64 at_) := fun W hW => later hW b1
        have hwa : IntKind.i64.wrap (Q.next + tm) = Q.next + tm := by rw [IntKind.wrap_i64] <;> omega
        have ham := fun W => among_any (Q.next + tm) 4294967296 W (by decide) (by decide)
        obtain ⟨av, hav⟩ : ∃ x, x = (Q.next + tm) % 4294967296 := ⟨_, rfl⟩
        rw [← hav] at ham
        clear hav
        go_upto_region 5 with fail
        refine wp_region_held_drew (S := (fun W => Below w1.heap.size w1 W)) (by kernel_rfl) ?_ (fun hHeld => ?_)
        · first | exact (Below.refl _ _).drew | assumption
        refine wpAnyH_take (i := 0) (oi := ({ dst := some 29, op := Go.Op.move (Go.Operand.tmp 1), type := 28, pos := "law.go:38", after := #[], guard := none } : Go.Oper)) (v := .pointer (some ⟨r, 0, none⟩)) rfl (by kernel_rfl) (by kernel_rfl) (by kernel_rfl) (fun _ _ _ h => h) (Or.inl ⟨by rfl, ?_⟩) (by assumption) ?_
        · intro wx hSw
          try dsimp only at hSw
          have u0 := hc0 wx hSw
          have u1 := hc1 wx hSw
          have u2 := HTM.out
          go_simp
          try with_reducible rfl
        try simp only [Act.put, List.setIfInBounds_toArray, List.set_cons_zero, List.set_cons_succ]
        refine wpAnyH_take (i := 1) (oi := ({ dst := some 30, op := Go.Op.nilCheck (Go.Operand.tmp 29), type := 0, pos := "law.go:38", after := #[{ on := 0, ground := Go.Ground.data }], guard := none } : Go.Oper)) (v := .pointer (some ⟨r, 0, none⟩)) rfl (by kernel_rfl) (by kernel_rfl) (by kernel_rfl) (fun _ _ _ h => h) (Or.inl ⟨by rfl, ?_⟩) (by assumption) ?_
        · intro wx hSw
          try dsimp only at hSw
          have u0 := hc0 wx hSw
          have u1 := hc1 wx hSw
          have u2 := HTM.out
          go_simp
          try with_reducible rfl
        try simp only [Act.put, List.setIfInBounds_toArray, List.set_cons_zero, List.set_cons_succ]
        refine wpAnyH_take (i := 2) (oi := ({ dst := some 31, op := Go.Op.fieldAddr 41 (Go.Operand.tmp 30) 0, type := 0, pos := "law.go:38", after := #[{ on := 1, ground := Go.Ground.data }], guard := none } : Go.Oper)) (v := .pointer (some ⟨r, 0, none⟩)) rfl (by kernel_rfl) (by kernel_rfl) (by kernel_rfl) (fun _ _ _ h => h) (Or.inl ⟨by rfl, ?_⟩) (by assumption) ?_
        · intro wx hSw
          try dsimp only at hSw
          have u0 := hc0 wx hSw
          have u1 := hc1 wx hSw
          have u2 := HTM.out
          go_simp
          try with_reducible rfl
        try simp only [Act.put, List.setIfInBounds_toArray, List.set_cons_zero, List.set_cons_succ]
        refine wpAnyH_take (i := 3) (oi := ({ dst := some 32, op := Go.Op.load 3 (Go.Operand.tmp 31), type := 3, pos := "law.go:38", after := #[{ on := 2, ground := Go.Ground.data }], guard := none } : Go.Oper)) (v := .int .i64 Q.next) rfl (by kernel_rfl) (by kernel_rfl) (by kernel_rfl) (fun _ _ _ h => h) (Or.inl ⟨by rfl, ?_⟩) (by assumption) ?_
        · intro wx hSw
          try dsimp only at hSw
          have u0 := hc0 wx hSw
          have u1 := hc1 wx hSw
          have u2 := HTM.out
          go_simp
          try with_reducible rfl
        try simp only [Act.put, List.setIfInBounds_toArray, List.set_cons_zero, List.set_cons_succ]
        refine wpAnyH_take (i := 4) (oi := ({ dst := some 33, op := Go.Op.fieldAddr 32 (Go.Operand.tmp 5) 1, type := 0, pos := "law.go:38", after := #[], guard := none } : Go.Oper)) (v := .pointer (some ⟨ab, 1, none⟩)) rfl (by kernel_rfl) (by kernel_rfl) (by kernel_rfl) (fun _ _ _ h => h) (Or.inl ⟨by rfl, ?_⟩) (by assumption) ?_
        · intro wx hSw
          try dsimp only at hSw
          have u0 := hc0 wx hSw
          have u1 := hc1 wx hSw
          have u2 := HTM.out
          go_simp
          try with_reducible rfl
        try simp only [Act.put, List.setIfInBounds_toArray, List.set_cons_zero, List.set_cons_succ]
        refine wpAnyH_take (i := 5) (oi := ({ dst := some 34, op := Go.Op.load 3 (Go.Operand.tmp 33), type := 3, pos := "law.go:38", after := #[{ on := 4, ground := Go.Ground.data }], guard := none } : Go.Oper)) (v := .int .i64 at_) rfl (by kernel_rfl) (by kernel_rfl) (by kernel_rfl) (fun _ _ _ h => h) (Or.inl ⟨by rfl, ?_⟩) (by assumption) ?_
        · intro wx hSw
          try dsimp only at hSw
          have u0 := hc0 wx hSw
          have u1 := hc1 wx hSw
          have u2 := HTM.out
          go_simp
          try with_reducible rfl
        try simp only [Act.put, List.setIfInBounds_toArray, List.set_cons_zero, List.set_cons_succ]
        refine wpAnyH_take (i := 6) (oi := ({ dst := some 35, op := Go.Op.binOp Go.BinOp.rem 3 (Go.Operand.tmp 34) (Go.Operand.const (Go.Value.int Go.IntKind.i64 100000)) 3, type := 3, pos := "law.go:38", after := #[{ on := 5, ground := Go.Ground.data }], guard := none } : Go.Oper)) (v := .int .i64 tm) rfl (by kernel_rfl) (by kernel_rfl) (by kernel_rfl) (fun _ _ _ h => h) (Or.inl ⟨by rfl, ?_⟩) (by assumption) ?_
        · intro wx hSw
          try dsimp only at hSw
          have u0 := hc0 wx hSw
          have u1 := hc1 wx hSw
          have u2 := HTM.out
          go_simp
          try with_reducible rfl
        try simp only [Act.put, List.setIfInBounds_toArray, List.set_cons_zero, List.set_cons_succ]
        refine wpAnyH_take (i := 7) (oi := ({ dst := some 36, op := Go.Op.binOp Go.BinOp.add 3 (Go.Operand.tmp 32) (Go.Operand.tmp 35) 3, type := 3, pos := "law.go:38", after := #[{ on := 3, ground := Go.Ground.data }, { on := 6, ground := Go.Ground.data }], guard := none } : Go.Oper)) (v := .int .i64 (Q.next + tm)) rfl (by kernel_rfl) (by kernel_rfl) (by kernel_rfl) (fun _ _ _ h => h) (Or.inl ⟨by rfl, ?_⟩) (by assumption) ?_
        · intro wx hSw
          try dsimp only at hSw
          have u0 := hc0 wx hSw
          have u1 := hc1 wx hSw
          have u2 := HTM.out
          go_simp
          try with_reducible rfl
        try simp only [Act.put, List.setIfInBounds_toArray, List.set_cons_zero, List.set_cons_succ]
        refine wpAnyH_ready (rs := [8]) (by kernel_rfl) (by simp) ?_
        refine AllReadyH.cons (o := ({ dst := some 37, op := Go.Op.call { callee := Go.Callee.value (Go.Operand.func 21), args := #[Go.Operand.tmp 36, Go.Operand.const (Go.Value.int Go.IntKind.i64 4294967296)], argTypes := #[3, 3] }, type := 3, pos := "law.go:38", after := #[{ on := 7, ground := Go.Ground.data }], guard := none } : Go.Oper)) rfl (fun K hK => ?_) AllReadyH.nil
        go_simp
        refine (ham _).mono ?_
        rintro e wy ⟨rfl, hwy⟩
        subst hwy
        refine hK.out _ _ hHeld (fun hHeld => ?_)
        clear hK K
        try simp only [Act.put, List.setIfInBounds_toArray, List.set_cons_zero, List.set_cons_succ]
        refine wpAnyH_take (i := 9) (oi := ({ dst := some 7, op := Go.Op.assign (Go.Operand.tmp 37), type := 3, pos := "law.go:38", after := #[{ on := 8, ground := Go.Ground.data }, { on := 8, ground := Go.Ground.chain }, { on := 0, ground := Go.Ground.phase }, { on := 1, ground := Go.Ground.phase }, { on := 2, ground := Go.Ground.phase }, { on := 3, ground := Go.Ground.phase }, { on := 4, ground := Go.Ground.phase }, { on := 5, ground := Go.Ground.phase }, { on := 6, ground := Go.Ground.phase }, { on := 7, ground := Go.Ground.phase }, { on := 8, ground := Go.Ground.phase }], guard := none } : Go.Oper)) (v := .int .i64 av) rfl (by kernel_rfl) (by kernel_rfl) (by kernel_rfl) (fun _ _ _ h => h) (Or.inl ⟨by rfl, ?_⟩) (by assumption) ?_
        · intro wx hSw
          try dsimp only at hSw
          have u0 := hc0 wx hSw
          have u1 := hc1 wx hSw
          have u2 := HTM.out
          go_simp
          try with_reducible rfl
        try simp only [Act.put, List.setIfInBounds_toArray, List.set_cons_zero, List.set_cons_succ]
        refine wpAnyH_done (by kernel_rfl) ?_ _
        try go_wp2_with fail
        go_meet
        case rel => exact ⟨av, rfl, hHeld⟩
    case rest =>
    obtain ⟨av, rfl, hbc⟩ := hcut
    have hPc := hP1.later hbc
    have hBc := hBx.later hbc
    have b3 : wc.cell? ⟨ab, 3, none⟩ = some (.string t) := (hBc.2 3 _ rfl).1
    have hss : t.size ≤ 65536 := by omega
    cases hnb : numB av with
    | false =>
      go_wp2_with fail
      refine (put_num hPc.x hPc.f av t hss hnb).mono ?_
      rintro e w2 ⟨rfl, hb2⟩
      have b32 : w2.cell? ⟨ab, 3, none⟩ = some (.string t) := later hb2 b3
      go_wp2_with fail
      refine (rput_no av t (Or.inl hnb)).mono ?_
      rintro e w3 ⟨rfl, hw3⟩
      subst hw3
      go_wp2
      go_ret
      exact ⟨rfl, HG.out _ _ _ _ ⟨(hPc.later hb2), Turn.of_below (bt hbc hb2), Gr.refl _ _, Gr.refl _ _⟩⟩
    | true =>
      obtain ⟨a0, a1⟩ := numB_t hnb
      obtain ⟨L, hL, -⟩ := Run.ex _ _ (putA_win hPc.f a0 a1 (s := t.data.toList) (by rw [Array.length_toList]; exact hss))
      have hfin := put_fine hPc.f a0 a1 (by rw [Array.length_toList]; exact hss) hL
      go_wp2_with fail
      refine (put_t hPc.x hPc.f av t hss a0 a1 L hL).mono ?_
      rintro e w2 ⟨rfl, A2, hx2, ht2, hg2⟩
      have hBc2 := hBc.turn ht2 hab.1
      have b32 : w2.cell? ⟨ab, 3, none⟩ = some (.string t) := (hBc2.2 3 _ rfl).1
      have hy2 := hPc.y.turn ht2 hPc.d
      go_wp2_with fail
      refine (rput_t hy2 hPc.f av t hss a0 a1 L hL).mono ?_
      rintro e w3 ⟨rfl, B3, hy3, ht3, hg3⟩
      obtain ⟨g1, g2, g3, g4⟩ := PX.both hPc hx2 ht2 hg2 hy3 ht3 hg3 hfin
      clear b3 b32
      go_wp2
      go_ret
      exact ⟨by simp, HG.out _ _ _ _ ⟨g1, (Turn.of_below hbc).trans g2, g3.weak hbc.size, g4.weak hbc.size⟩⟩
end Go.Proofs.Ytiglaalppaljbaa
