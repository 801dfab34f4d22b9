/- The law's step. -/
import Derived.Test.YtlbdecjppgjdiaaDTk
import Derived.Test.YtlbdecjppgjdiaaDTl
import Derived.Test.YtlbdecjppgjdiaaDTn
namespace Go.Proofs.Ytlbdecjppgjdiaa
open Go.RowKit Go.Maps Go.Lib
set_option maxRecDepth 100000
set_option linter.unusedVariables false
set_option linter.unusedSimpArgs false


/-- A list of ranges that is read, wherever it lies. -/
def RRd (w : World) (v : Value) (rs : List Rg) : Prop := ∃ a c, v = .slice a rs.length c ∧ (a = none → c = 0) ∧ ∀ i r, rs[i]? = some r → ∃ b off, a = some ⟨b, off, none⟩ ∧ w.cell? ⟨b, off + i * 2, none⟩ = some (.int .i64 r.1) ∧ w.cell? ⟨b, off + i * 2 + 1, none⟩ = some (.int .i64 r.2)
theorem RRd.later {w w' : World} {v : Value} {rs : List Rg} (h : RRd w v rs) (hb : Below w.heap.size w w') : RRd w' v rs := by
  obtain ⟨a, c, h1, h2, h3⟩ := h
  refine ⟨a, c, h1, h2, fun i r hr => ?_⟩
  obtain ⟨b, off, k1, k2, k3⟩ := h3 i r hr
  exact ⟨b, off, k1, Go.Proofs.Ytlbdecjppgjdiaa.later hb k2, Go.Proofs.Ytlbdecjppgjdiaa.later hb k3⟩
theorem clonerd_run {w : World} {v : Value} {rs : List Rg} (hr : RRd (w.alloc (.cells #[] 60)) v rs) (hl : rs.length ≤ 100000) (ty : TypeId) :
    ∃ v' w', (Builtin.append_ #[31, 31] ty #[.slice (some ⟨w.heap.size, 0, none⟩) 0 0, v]).run Try.prog (w.alloc (.cells #[] 60)) = .ok v' w' ∧ RO w' (fun k => w.heap.size ≤ k) v' rs ∧ Below w.heap.size w w' := by
  obtain ⟨i0, hi, hz0, hz1, hz2⟩ := info_parts infoR
  have hown : (w.alloc (.cells #[] 60)).ownsRow w.heap.size 60 2 (.slice (some ⟨w.heap.size, 0, none⟩) 0 0) 0 [] := World.ownsRow_made w #[] 0 (Nat.le_refl _) (Nat.zero_le _) rfl
  obtain ⟨a, c, rfl, hc, h1⟩ := hr
  cases a with
  | none =>
    obtain rfl := hc rfl
    have hG : rs = [] := by
      cases rs with
      | nil => rfl
      | cons b r => obtain ⟨_, _, hx, -⟩ := h1 0 b rfl; cases hx
    subst hG
    exact ⟨_, _, run_append_owned_none (P := Try.prog) (w := w.alloc (.cells #[] 60)) w.heap.size 31 ty 60 i0 2 Try.underlying31 hi _ 0 [] hown, OwnP.of_ge hown (fun k h => h), bel1 _ _⟩
  | some x =>
    obtain ⟨v', w', e1, e2, e3, -⟩ := run_append_own_at (P := Try.prog) (w.alloc (.cells #[] 60)) w.heap.size 31 ty 60 i0 _ 2 16 Try.underlying31 hi hz0 hz1 hz2 rfl (by decide) _ 0 [] hown x rs.length c (rs.flatMap enR) (rflat_len rs) (fun j u hu => by
      obtain ⟨i, e, he, hq⟩ := rflat_of rs j u hu
      obtain ⟨b, off, hx, k3, k4⟩ := h1 i e he
      cases hx
      rw [Addr.add_mid]
      rcases hq with ⟨rfl, rfl⟩ | ⟨rfl, rfl⟩
      · exact k3
      · rw [← Nat.add_assoc]; exact k4) (rflat_one rs) (by unfold maxLen; omega) (by omega) (by simp)
    rw [Nat.zero_add, List.nil_append] at e2
    exact ⟨v', w', e1, OwnP.of_ge e2 (fun k h => h), ((Below.refl _ w).alloc (Nat.le_refl _) _).grown e3 (by simp) (by intro k hk; simp [Value.ownBlock] at hk; omega)⟩
theorem list_of {n : Nat} {P : Nat → Rg → Prop} (h : ∀ k, k < n → ∃ r, P k r) : ∃ rs : List Rg, rs.length = n ∧ ∀ k r, rs[k]? = some r → P k r := by
  induction n with
  | zero => exact ⟨[], rfl, fun k r hr => by simp at hr⟩
  | succ n ih =>
    obtain ⟨rs, h1, h2⟩ := ih (fun k hk => h k (by omega))
    obtain ⟨x, hx⟩ := h n (by omega)
    refine ⟨rs ++ [x], by simp [h1], fun k r hr => ?_⟩
    rcases Nat.lt_or_ge k rs.length with h3 | h3
    · rw [List.getElem?_append_left h3] at hr
      exact h2 k r hr
    · rw [List.getElem?_append_right h3] at hr
      have : k - rs.length = 0 := by
        have := (List.getElem?_eq_some_iff.1 hr).1
        simp at this
        omega
      rw [this] at hr
      cases hr
      rw [show k = n by omega]
      exact hx
theorem RI.rd {w : World} {v : Value} (h : RI w v) : ∃ rs, RRd w v rs := by
  obtain ⟨a, n, c, rfl, h1, h2, h3⟩ := h
  rcases h1 with rfl | ⟨b, off, rfl, h4⟩
  · exact ⟨[], a, c, rfl, h3, fun i r hr => by simp at hr⟩
  · obtain ⟨rs, h5, h6⟩ := list_of (P := fun k r => w.cell? ⟨b, off + k * 2, none⟩ = some (.int .i64 r.1) ∧ w.cell? ⟨b, off + k * 2 + 1, none⟩ = some (.int .i64 r.2)) (fun k hk => by
      obtain ⟨cs, ⟨hcl, hck⟩, hcc⟩ := h4 k hk
      match cs, hcl with
      | [v0, v1], _ =>
        obtain ⟨x, rfl, -⟩ := hck 0 _ _ rfl rfl
        obtain ⟨y, rfl, -⟩ := hck 1 _ _ rfl rfl
        exact ⟨(x, y), hcc 0 _ rfl, hcc 1 _ rfl⟩)
    exact ⟨rs, some ⟨b, off, none⟩, c, by rw [h5], h3, fun i r hr => ⟨b, off, rfl, h6 i r hr⟩⟩
theorem PX.keep {w w' : World} {R R' : Bk} {q r : Nat} {Q : Qu} {U : Ru} {vb vp vg : Value} (h : PX w R q r Q U vb vp vg) (ht : TY [60] R' w w') : PX w' R q r Q U vb vp vg := ⟨h.x.keep ht (by decide) (by decide) (by decide), h.y.keep ht (by decide) (by decide), h.l, h.f, h.sz.up ht.size⟩

theorem wf64 {x : Int} (h : (Lit.int .i64 x).wf = true) : -9223372036854775808 ≤ x ∧ x ≤ 9223372036854775807 := by
  simp [Lit.wf] at h
  rw [show IntKind.i64.min = -9223372036854775808 from by decide] at h
  exact h
/-- What the walk of step keeps. -/
structure SX (w : World) (R : Bk) (q r : Nat) (Q : Qu) (U : Ru) (vb vp vg : Value) (z : Nat) (cells : Array Value) (v : Value) (rs : List Rg) : Prop where
  p : PX w R q r Q U vb vp vg
  a : At w z cells
  k : Kd w z 33
  l : RO w (fun k => z ≤ k) v rs
set_option maxHeartbeats 4000000 in
theorem step_any {w : World} {R : Bk} {q r : Nat} {Q : Qu} {U : Ru} {vb vp vg vl : Value} {rs : List Rg} (h : PX w R q r Q U vb vp vg) (kd n m : Int) (t : ByteArray) (nr : Bool) (hl : RRd w vl rs) (hrl : rs.length ≤ 50) (ht : t.size ≤ 2000) (hn0 : (Lit.int .i64 n).wf = true) (hm0 : (Lit.int .i64 m).wf = true) :
    Calls Try.prog 11 #[PQ q, PR r, .agg #[.int .i64 kd, .int .i64 n, .int .i64 m, .string t, vl, .bool nr]] w fun e w' => e = .returned (.bool true) ∧ ∃ Q' U' vb' vp' vg', PX w' R q r Q' U' vb' vp' vg' ∧ TB R w w' := by
  have b1 := bel1 w (.cells #[.int .i64 kd, .int .i64 n, .int .i64 m, .string t, vl, .bool nr] 33)
  have hA := At.box w #[.int .i64 kd, .int .i64 n, .int .i64 m, .string t, vl, .bool nr] 33
  have hAk := Kd.box w #[.int .i64 kd, .int .i64 n, .int .i64 m, .string t, vl, .bool nr] 33
  have hP1 := h.later b1
  have b2 := bel1 (w.alloc (.cells #[.int .i64 kd, .int .i64 n, .int .i64 m, .string t, vl, .bool nr] 33)) (.cells #[] 60)
  obtain ⟨vr, w2, hrun, hro, hb2⟩ := clonerd_run (w := w.alloc (.cells #[.int .i64 kd, .int .i64 n, .int .i64 m, .string t, vl, .bool nr] 33)) ((hl.later b1).later b2) (by omega) 31
  have hP2 := hP1.later hb2
  have hz : w.heap.size ≤ (w.alloc (.cells #[.int .i64 kd, .int .i64 n, .int .i64 m, .string t, vl, .bool nr] 33)).heap.size := b1.size
  have HS2 : Hid (SX w2 R q r Q U vb vp vg w.heap.size #[.int .i64 kd, .int .i64 n, .int .i64 m, .string t, vl, .bool nr] vr rs ∧ Below w.heap.size w w2) := ⟨⟨hP2, hA.later hb2, hAk.later hb2, row_low hro (fun k h => Nat.le_trans hz h)⟩, b1.trans (hb2.mono hz)⟩
  obtain ⟨al, cl, e0, -, -⟩ := hl
  subst e0
  have a0 := (hA.2 1 _ rfl).1
  obtain ⟨c4, f4⟩ := (hA.later b2).2 4 _ rfl
  obtain ⟨ar, cr, er, -⟩ := hro.rr
  subst er
  rw [World.size_alloc] at hrun
  clear h hP1 hP2 hA hAk hro hb2 hz
  go_enter Try.func11, Try.ntmps11
  go_upto_region 3 with (first
    | (at_builtin; refine wpList_append_eq2 rfl _ _ rfl rfl rfl hrun ?_)
    | fail)
  generalize hz : w.heap.size = z at *
  clear a0 c4 f4 hrun b1 b2
  have c5 := (HS2.out.1.a.2 5 _ rfl).1
  go_upto_if 37 with fail
  go_cut [7, 9] from 36 to 74 (fun s7 _ W => ∃ (n' : Int) (rs' : List Rg), s7 = .int .i64 n' ∧ rs'.length = rs.length ∧ Hid (SX W R q r Q U vb vp vg z #[.int .i64 kd, .int .i64 n, .int .i64 m, .string t, .slice al rs.length cl, .bool nr] (.slice ar rs.length cr) rs' ∧ Below z w W))
  case first =>
    as_aux_lemma =>
    -- @1
    cases nr with
    | false =>
      go_wp2
      go_meet
      case rel => exact ⟨n, rs, rfl, rfl, HS2⟩
    | true =>
      have hl0 : 0 ≤ U.left := by rw [HS2.out.1.p.l.left]; exact HS2.out.1.p.f.l0
      have hl1 : U.left ≤ 4294967295 := by rw [HS2.out.1.p.l.left]; exact HS2.out.1.p.f.l1
      have e0 : ∀ W, Below w2.heap.size w2 W → W.cell? ⟨r, 0, none⟩ = some (.int .i64 U.left) := fun W hW => later hW (HS2.out.1.p.y.at5.2 0 _ rfl).1
      have e1 : ∀ W, Below w2.heap.size w2 W → W.cell? ⟨z, 1, none⟩ = some (.int .i64 n) := fun W hW => later hW (HS2.out.1.a.2 1 _ rfl).1
      have hcn : ∀ W, Calls Try.prog 28 #[.int .i64 U.left, .int .i64 n] W fun e w' => e = .returned (.int .i64 (nearV U.left n)) ∧ w' = W := fun W => near_any _ _ W hl0 hl1
      go_upto_region 4 with fail
      refine wp_region_held_drew (S := (fun W => Below w2.heap.size w2 W)) (by kernel_rfl) ?_ (fun hHeld => ?_)
      · first | exact (Below.refl _ _).drew | assumption
      refine wpAnyH_take (i := 0) (oi := ({ dst := some 38, op := Go.Op.move (Go.Operand.tmp 1), type := 27, pos := "law.go:27", after := #[], guard := none } : Go.Oper)) (v := .pointer (some ⟨r, 0, none⟩)) rfl (by kernel_rfl) (by kernel_rfl) (by kernel_rfl) (fun _ _ _ h => h) (Or.inl ⟨by rfl, ?_⟩) (by assumption) ?_
      · intro wx hSw
        try dsimp only at hSw
        have u0 := e0 wx hSw
        have u1 := e1 wx hSw
        go_simp
        try with_reducible rfl
      try simp only [Act.put, List.setIfInBounds_toArray, List.set_cons_zero, List.set_cons_succ]
      refine wpAnyH_take (i := 1) (oi := ({ dst := some 39, op := Go.Op.nilCheck (Go.Operand.tmp 38), type := 0, pos := "law.go:27", after := #[{ on := 0, ground := Go.Ground.data }], guard := none } : Go.Oper)) (v := .pointer (some ⟨r, 0, none⟩)) rfl (by kernel_rfl) (by kernel_rfl) (by kernel_rfl) (fun _ _ _ h => h) (Or.inl ⟨by rfl, ?_⟩) (by assumption) ?_
      · intro wx hSw
        try dsimp only at hSw
        have u0 := e0 wx hSw
        have u1 := e1 wx hSw
        go_simp
        try with_reducible rfl
      try simp only [Act.put, List.setIfInBounds_toArray, List.set_cons_zero, List.set_cons_succ]
      refine wpAnyH_take (i := 2) (oi := ({ dst := some 40, op := Go.Op.fieldAddr 45 (Go.Operand.tmp 39) 0, type := 0, pos := "law.go:27", after := #[{ on := 1, ground := Go.Ground.data }], guard := none } : Go.Oper)) (v := .pointer (some ⟨r, 0, none⟩)) rfl (by kernel_rfl) (by kernel_rfl) (by kernel_rfl) (fun _ _ _ h => h) (Or.inl ⟨by rfl, ?_⟩) (by assumption) ?_
      · intro wx hSw
        try dsimp only at hSw
        have u0 := e0 wx hSw
        have u1 := e1 wx hSw
        go_simp
        try with_reducible rfl
      try simp only [Act.put, List.setIfInBounds_toArray, List.set_cons_zero, List.set_cons_succ]
      refine wpAnyH_take (i := 3) (oi := ({ dst := some 41, op := Go.Op.load 3 (Go.Operand.tmp 40), type := 3, pos := "law.go:27", after := #[{ on := 2, ground := Go.Ground.data }], guard := none } : Go.Oper)) (v := .int .i64 U.left) rfl (by kernel_rfl) (by kernel_rfl) (by kernel_rfl) (fun _ _ _ h => h) (Or.inl ⟨by rfl, ?_⟩) (by assumption) ?_
      · intro wx hSw
        try dsimp only at hSw
        have u0 := e0 wx hSw
        have u1 := e1 wx hSw
        go_simp
        try with_reducible rfl
      try simp only [Act.put, List.setIfInBounds_toArray, List.set_cons_zero, List.set_cons_succ]
      refine wpAnyH_take (i := 4) (oi := ({ dst := some 42, op := Go.Op.fieldAddr 33 (Go.Operand.tmp 5) 1, type := 0, pos := "law.go:27", after := #[], guard := none } : Go.Oper)) (v := .pointer (some ⟨z, 1, none⟩)) rfl (by kernel_rfl) (by kernel_rfl) (by kernel_rfl) (fun _ _ _ h => h) (Or.inl ⟨by rfl, ?_⟩) (by assumption) ?_
      · intro wx hSw
        try dsimp only at hSw
        have u0 := e0 wx hSw
        have u1 := e1 wx hSw
        go_simp
        try with_reducible rfl
      try simp only [Act.put, List.setIfInBounds_toArray, List.set_cons_zero, List.set_cons_succ]
      refine wpAnyH_take (i := 5) (oi := ({ dst := some 43, op := Go.Op.load 3 (Go.Operand.tmp 42), type := 3, pos := "law.go:27", after := #[{ on := 4, ground := Go.Ground.data }], guard := none } : Go.Oper)) (v := .int .i64 n) rfl (by kernel_rfl) (by kernel_rfl) (by kernel_rfl) (fun _ _ _ h => h) (Or.inl ⟨by rfl, ?_⟩) (by assumption) ?_
      · intro wx hSw
        try dsimp only at hSw
        have u0 := e0 wx hSw
        have u1 := e1 wx hSw
        go_simp
        try with_reducible rfl
      try simp only [Act.put, List.setIfInBounds_toArray, List.set_cons_zero, List.set_cons_succ]
      refine wpAnyH_ready (rs := [6]) (by kernel_rfl) (by simp) ?_
      refine AllReadyH.cons (o := ({ dst := some 44, op := Go.Op.call { callee := Go.Callee.value (Go.Operand.func 28), args := #[Go.Operand.tmp 41, Go.Operand.tmp 43], argTypes := #[3, 3] }, type := 3, pos := "law.go:27", after := #[{ on := 3, ground := Go.Ground.data }, { on := 5, ground := Go.Ground.data }], guard := none } : Go.Oper)) rfl (fun K hK => ?_) AllReadyH.nil
      go_simp
      refine (hcn _).mono ?_
      rintro e wk ⟨rfl, rfl⟩
      refine hK.out _ _ hHeld (fun hHeld => ?_)
      clear hK K
      try simp only [Act.put, List.setIfInBounds_toArray, List.set_cons_zero, List.set_cons_succ]
      refine wpAnyH_take (i := 7) (oi := ({ dst := some 7, op := Go.Op.assign (Go.Operand.tmp 44), type := 3, pos := "law.go:27", after := #[{ on := 6, ground := Go.Ground.data }, { on := 6, ground := Go.Ground.chain }, { on := 0, ground := Go.Ground.phase }, { on := 1, ground := Go.Ground.phase }, { on := 2, ground := Go.Ground.phase }, { on := 3, ground := Go.Ground.phase }, { on := 4, ground := Go.Ground.phase }, { on := 5, ground := Go.Ground.phase }, { on := 6, ground := Go.Ground.phase }], guard := none } : Go.Oper)) (v := .int .i64 (nearV U.left n)) rfl (by kernel_rfl) (by kernel_rfl) (by kernel_rfl) (fun _ _ _ h => h) (Or.inl ⟨by rfl, ?_⟩) (by assumption) ?_
      · intro wx hSw
        try dsimp only at hSw
        have u0 := e0 wx hSw
        have u1 := e1 wx hSw
        go_simp
        try with_reducible rfl
      try simp only [Act.put, List.setIfInBounds_toArray, List.set_cons_zero, List.set_cons_succ]
      refine wpAnyH_done (by kernel_rfl) ?_ _
      have HS3 : Hid (SX w2.drew R q r Q U vb vp vg z #[.int .i64 kd, .int .i64 n, .int .i64 m, .string t, .slice al rs.length cl, .bool true] (.slice ar rs.length cr) rs ∧ Below z w w2.drew) := ⟨⟨HS2.out.1.p.later (Below.refl _ _).drew, HS2.out.1.a.later (Below.refl _ _).drew, HS2.out.1.k.later (Below.refl _ _).drew, row_later HS2.out.1.l (Below.refl _ _).drew⟩, HS2.out.2.drew⟩
      clear hHeld e0 e1 hcn c5 HS2
      generalize w2.drew = w3 at *
      go_wp2
      go_loopw [9] (fun s9 W => ∃ (i : Nat) (rs' : List Rg), i ≤ rs.length ∧ s9 = .int .i64 (i : Int) ∧ rs'.length = rs.length ∧ Hid (SX W R q r Q U vb vp vg z #[.int .i64 kd, .int .i64 n, .int .i64 m, .string t, .slice al rs.length cl, .bool true] (.slice ar rs.length cr) rs' ∧ Below z w W)) (fun s9 _ => rs.length - (RowKit.intOf s9).toNat)
      case atStart => exact ⟨0, rs, Nat.zero_le _, rfl, rfl, HS3⟩
      case round =>
        clear HS3
        obtain ⟨i, rs', hin, rfl, hlr, HI⟩ := hrel
        by_cases hlt : i < rs.length
        · have hltI : (i : Int) < (rs.length : Int) := by omega
          have hi0 : (0 : Int) ≤ (i : Int) := by omega
          obtain ⟨x, hx⟩ : ∃ x, rs'[i]? = some x := ⟨_, List.getElem?_eq_getElem (by omega)⟩
          have hro := HI.out.1.l
          obtain ⟨g, hag, hgk, hgz, hgf⟩ : ∃ g, ar = some ⟨g, 0, none⟩ ∧ Kd wr g 60 ∧ z ≤ g ∧ ∀ o, wr.frozen? ⟨g, o, none⟩ = false := by
            rcases hro.2 with ⟨e, e0⟩ | ⟨g, cap, cur, hv, hg, hb, -⟩
            · omega
            · injection hv with q1 q2 q3
              exact ⟨g, q1, ⟨cur, (0, 0), hb⟩, hg, fun o => by simp [World.frozen?, hb]⟩
          subst hag
          obtain ⟨fa, fb⟩ := rflat_at rs' i x hx
          have x0 := hro.cells (g := g) rfl _ _ fa
          have x1 := hro.cells (g := g) rfl _ _ fb
          rw [Addr.add_mid, Nat.zero_add] at x0 x1
          have l0 := (HI.out.1.p.y.at5.2 0 _ rfl).1
          have hcn : ∀ y W, Calls Try.prog 28 #[.int .i64 U.left, .int .i64 y] W fun e w' => e = .returned (.int .i64 (nearV U.left y)) ∧ w' = W := fun y W => near_any _ _ W hl0 hl1
          have hgr : g ≠ r := fun e => by subst e; exact absurd (hgk.one HI.out.1.p.y.kd) (by decide)
          have hput := hro.put hlr.symm i (nearV U.left x.1, nearV U.left x.2) (by omega)
          have tgs : TY [60] (fun k => z ≤ k) wr ((wr.setCell ⟨g, i * 2, none⟩ (.int .i64 (nearV U.left x.1))).setCell ⟨g, i * 2 + 1, none⟩ (.int .i64 (nearV U.left x.2))) := (TY.set hgk (by decide) hgz _ _).trans (TY.set (hgk.set _ _) (by decide) hgz _ _)
          have HN : Hid (SX ((wr.setCell ⟨g, i * 2, none⟩ (.int .i64 (nearV U.left x.1))).setCell ⟨g, i * 2 + 1, none⟩ (.int .i64 (nearV U.left x.2))).drew R q r Q U vb vp vg z #[.int .i64 kd, .int .i64 n, .int .i64 m, .string t, .slice al rs.length cl, .bool true] (.slice (some ⟨g, 0, none⟩) rs.length cr) (rs'.set i (nearV U.left x.1, nearV U.left x.2)) ∧ Below z w ((wr.setCell ⟨g, i * 2, none⟩ (.int .i64 (nearV U.left x.1))).setCell ⟨g, i * 2 + 1, none⟩ (.int .i64 (nearV U.left x.2))).drew) := by
            obtain ⟨p1, p2⟩ := HI.out
            have dd : Below ((wr.setCell ⟨g, i * 2, none⟩ (.int .i64 (nearV U.left x.1))).setCell ⟨g, i * 2 + 1, none⟩ (.int .i64 (nearV U.left x.2))).heap.size ((wr.setCell ⟨g, i * 2, none⟩ (.int .i64 (nearV U.left x.1))).setCell ⟨g, i * 2 + 1, none⟩ (.int .i64 (nearV U.left x.2))) ((wr.setCell ⟨g, i * 2, none⟩ (.int .i64 (nearV U.left x.1))).setCell ⟨g, i * 2 + 1, none⟩ (.int .i64 (nearV U.left x.2))).drew := (Below.refl _ _).drew
            exact ⟨⟨(p1.p.keep tgs).later dd, (tgs.at p1.a p1.k (by decide)).later dd, (p1.k.turn tgs (Or.inl (by decide))).later dd, row_later hput dd⟩, (p2.trans (tgs.below (by have := p1.a.1; omega) (fun k h => h))).drew⟩
          clear HI hro fa fb tgs hput hgk hx
          go_upto_region 8 with fail
          refine wp_region_held_drew (S := (fun W => W.cell? ⟨r, 0, none⟩ = some (.int .i64 U.left))) (by kernel_rfl) ?_ (fun hHeld => ?_)
          · first | exact l0 | assumption
          refine wpAnyH_take (i := 0) (oi := ({ dst := some 51, op := Go.Op.move (Go.Operand.tmp 8), type := 31, pos := "law.go:29", after := #[], guard := none } : Go.Oper)) (v := .slice (some ⟨g, 0, none⟩) rs.length cr) rfl (by kernel_rfl) (by kernel_rfl) (by kernel_rfl) (fun _ _ _ h => h) (Or.inl ⟨by rfl, ?_⟩) (by assumption) ?_
          · intro wx hSw
            try dsimp only at hSw
            have u0 := hSw
            go_simp
            try with_reducible rfl
          try simp only [Act.put, List.setIfInBounds_toArray, List.set_cons_zero, List.set_cons_succ]
          refine wpAnyH_take (i := 1) (oi := ({ dst := some 52, op := Go.Op.move (Go.Operand.tmp 9), type := 3, pos := "law.go:29", after := #[], guard := none } : Go.Oper)) (v := .int .i64 (i : Int)) rfl (by kernel_rfl) (by kernel_rfl) (by kernel_rfl) (fun _ _ _ h => h) (Or.inl ⟨by rfl, ?_⟩) (by assumption) ?_
          · intro wx hSw
            try dsimp only at hSw
            have u0 := hSw
            go_simp
            try with_reducible rfl
          try simp only [Act.put, List.setIfInBounds_toArray, List.set_cons_zero, List.set_cons_succ]
          refine wpAnyH_take (i := 2) (oi := ({ dst := some 53, op := Go.Op.move (Go.Operand.tmp 1), type := 27, pos := "law.go:29", after := #[], guard := none } : Go.Oper)) (v := .pointer (some ⟨r, 0, none⟩)) rfl (by kernel_rfl) (by kernel_rfl) (by kernel_rfl) (fun _ _ _ h => h) (Or.inl ⟨by rfl, ?_⟩) (by assumption) ?_
          · intro wx hSw
            try dsimp only at hSw
            have u0 := hSw
            go_simp
            try with_reducible rfl
          try simp only [Act.put, List.setIfInBounds_toArray, List.set_cons_zero, List.set_cons_succ]
          refine wpAnyH_take (i := 3) (oi := ({ dst := some 54, op := Go.Op.nilCheck (Go.Operand.tmp 53), type := 0, pos := "law.go:29", after := #[{ on := 2, ground := Go.Ground.data }], guard := none } : Go.Oper)) (v := .pointer (some ⟨r, 0, none⟩)) rfl (by kernel_rfl) (by kernel_rfl) (by kernel_rfl) (fun _ _ _ h => h) (Or.inl ⟨by rfl, ?_⟩) (by assumption) ?_
          · intro wx hSw
            try dsimp only at hSw
            have u0 := hSw
            go_simp
            try with_reducible rfl
          try simp only [Act.put, List.setIfInBounds_toArray, List.set_cons_zero, List.set_cons_succ]
          refine wpAnyH_take (i := 4) (oi := ({ dst := some 55, op := Go.Op.fieldAddr 45 (Go.Operand.tmp 54) 0, type := 0, pos := "law.go:29", after := #[{ on := 3, ground := Go.Ground.data }], guard := none } : Go.Oper)) (v := .pointer (some ⟨r, 0, none⟩)) rfl (by kernel_rfl) (by kernel_rfl) (by kernel_rfl) (fun _ _ _ h => h) (Or.inl ⟨by rfl, ?_⟩) (by assumption) ?_
          · intro wx hSw
            try dsimp only at hSw
            have u0 := hSw
            go_simp
            try with_reducible rfl
          try simp only [Act.put, List.setIfInBounds_toArray, List.set_cons_zero, List.set_cons_succ]
          refine wpAnyH_take (i := 5) (oi := ({ dst := some 56, op := Go.Op.load 3 (Go.Operand.tmp 55), type := 3, pos := "law.go:29", after := #[{ on := 4, ground := Go.Ground.data }], guard := none } : Go.Oper)) (v := .int .i64 U.left) rfl (by kernel_rfl) (by kernel_rfl) (by kernel_rfl) (fun _ _ _ h => h) (Or.inl ⟨by rfl, ?_⟩) (by assumption) ?_
          · intro wx hSw
            try dsimp only at hSw
            have u0 := hSw
            go_simp
            try with_reducible rfl
          try simp only [Act.put, List.setIfInBounds_toArray, List.set_cons_zero, List.set_cons_succ]
          refine wpAnyH_take (i := 6) (oi := ({ dst := some 57, op := Go.Op.move (Go.Operand.tmp 8), type := 31, pos := "law.go:29", after := #[], guard := none } : Go.Oper)) (v := .slice (some ⟨g, 0, none⟩) rs.length cr) rfl (by kernel_rfl) (by kernel_rfl) (by kernel_rfl) (fun _ _ _ h => h) (Or.inl ⟨by rfl, ?_⟩) (by assumption) ?_
          · intro wx hSw
            try dsimp only at hSw
            have u0 := hSw
            go_simp
            try with_reducible rfl
          try simp only [Act.put, List.setIfInBounds_toArray, List.set_cons_zero, List.set_cons_succ]
          refine wpAnyH_take (i := 7) (oi := ({ dst := some 58, op := Go.Op.move (Go.Operand.tmp 9), type := 3, pos := "law.go:29", after := #[], guard := none } : Go.Oper)) (v := .int .i64 (i : Int)) rfl (by kernel_rfl) (by kernel_rfl) (by kernel_rfl) (fun _ _ _ h => h) (Or.inl ⟨by rfl, ?_⟩) (by assumption) ?_
          · intro wx hSw
            try dsimp only at hSw
            have u0 := hSw
            go_simp
            try with_reducible rfl
          try simp only [Act.put, List.setIfInBounds_toArray, List.set_cons_zero, List.set_cons_succ]
          refine wpAnyH_take (i := 8) (oi := ({ dst := some 59, op := Go.Op.indexAddr 31 (Go.Operand.tmp 57) (Go.Operand.tmp 58), type := 0, pos := "law.go:29", after := #[{ on := 6, ground := Go.Ground.data }, { on := 7, ground := Go.Ground.data }], guard := none } : Go.Oper)) (v := .pointer (some ⟨g, i * 2, none⟩)) rfl (by kernel_rfl) (by kernel_rfl) (by kernel_rfl) (fun _ _ _ h => h) (Or.inl ⟨by rfl, ?_⟩) (by assumption) ?_
          · intro wx hSw
            try dsimp only at hSw
            have u0 := hSw
            go_simp
            try with_reducible rfl
          try simp only [Act.put, List.setIfInBounds_toArray, List.set_cons_zero, List.set_cons_succ]
          refine wpAnyH_take (i := 9) (oi := ({ dst := some 60, op := Go.Op.fieldAddr 60 (Go.Operand.tmp 59) 0, type := 0, pos := "law.go:29", after := #[{ on := 8, ground := Go.Ground.data }], guard := none } : Go.Oper)) (v := .pointer (some ⟨g, i * 2, none⟩)) rfl (by kernel_rfl) (by kernel_rfl) (by kernel_rfl) (fun _ _ _ h => h) (Or.inl ⟨by rfl, ?_⟩) (by assumption) ?_
          · intro wx hSw
            try dsimp only at hSw
            have u0 := hSw
            go_simp
            try with_reducible rfl
          try simp only [Act.put, List.setIfInBounds_toArray, List.set_cons_zero, List.set_cons_succ]
          refine wpAnyH_take (i := 12) (oi := ({ dst := some 63, op := Go.Op.move (Go.Operand.tmp 1), type := 27, pos := "law.go:29", after := #[], guard := none } : Go.Oper)) (v := .pointer (some ⟨r, 0, none⟩)) rfl (by kernel_rfl) (by kernel_rfl) (by kernel_rfl) (fun _ _ _ h => h) (Or.inl ⟨by rfl, ?_⟩) (by assumption) ?_
          · intro wx hSw
            try dsimp only at hSw
            have u0 := hSw
            go_simp
            try with_reducible rfl
          try simp only [Act.put, List.setIfInBounds_toArray, List.set_cons_zero, List.set_cons_succ]
          refine wpAnyH_take (i := 13) (oi := ({ dst := some 64, op := Go.Op.nilCheck (Go.Operand.tmp 63), type := 0, pos := "law.go:29", after := #[{ on := 12, ground := Go.Ground.data }], guard := none } : Go.Oper)) (v := .pointer (some ⟨r, 0, none⟩)) rfl (by kernel_rfl) (by kernel_rfl) (by kernel_rfl) (fun _ _ _ h => h) (Or.inl ⟨by rfl, ?_⟩) (by assumption) ?_
          · intro wx hSw
            try dsimp only at hSw
            have u0 := hSw
            go_simp
            try with_reducible rfl
          try simp only [Act.put, List.setIfInBounds_toArray, List.set_cons_zero, List.set_cons_succ]
          refine wpAnyH_take (i := 14) (oi := ({ dst := some 65, op := Go.Op.fieldAddr 45 (Go.Operand.tmp 64) 0, type := 0, pos := "law.go:29", after := #[{ on := 13, ground := Go.Ground.data }], guard := none } : Go.Oper)) (v := .pointer (some ⟨r, 0, none⟩)) rfl (by kernel_rfl) (by kernel_rfl) (by kernel_rfl) (fun _ _ _ h => h) (Or.inl ⟨by rfl, ?_⟩) (by assumption) ?_
          · intro wx hSw
            try dsimp only at hSw
            have u0 := hSw
            go_simp
            try with_reducible rfl
          try simp only [Act.put, List.setIfInBounds_toArray, List.set_cons_zero, List.set_cons_succ]
          refine wpAnyH_take (i := 15) (oi := ({ dst := some 66, op := Go.Op.load 3 (Go.Operand.tmp 65), type := 3, pos := "law.go:29", after := #[{ on := 14, ground := Go.Ground.data }], guard := none } : Go.Oper)) (v := .int .i64 U.left) rfl (by kernel_rfl) (by kernel_rfl) (by kernel_rfl) (fun _ _ _ h => h) (Or.inl ⟨by rfl, ?_⟩) (by assumption) ?_
          · intro wx hSw
            try dsimp only at hSw
            have u0 := hSw
            go_simp
            try with_reducible rfl
          try simp only [Act.put, List.setIfInBounds_toArray, List.set_cons_zero, List.set_cons_succ]
          refine wpAnyH_take (i := 16) (oi := ({ dst := some 67, op := Go.Op.move (Go.Operand.tmp 8), type := 31, pos := "law.go:29", after := #[], guard := none } : Go.Oper)) (v := .slice (some ⟨g, 0, none⟩) rs.length cr) rfl (by kernel_rfl) (by kernel_rfl) (by kernel_rfl) (fun _ _ _ h => h) (Or.inl ⟨by rfl, ?_⟩) (by assumption) ?_
          · intro wx hSw
            try dsimp only at hSw
            have u0 := hSw
            go_simp
            try with_reducible rfl
          try simp only [Act.put, List.setIfInBounds_toArray, List.set_cons_zero, List.set_cons_succ]
          refine wpAnyH_take (i := 17) (oi := ({ dst := some 68, op := Go.Op.move (Go.Operand.tmp 9), type := 3, pos := "law.go:29", after := #[], guard := none } : Go.Oper)) (v := .int .i64 (i : Int)) rfl (by kernel_rfl) (by kernel_rfl) (by kernel_rfl) (fun _ _ _ h => h) (Or.inl ⟨by rfl, ?_⟩) (by assumption) ?_
          · intro wx hSw
            try dsimp only at hSw
            have u0 := hSw
            go_simp
            try with_reducible rfl
          try simp only [Act.put, List.setIfInBounds_toArray, List.set_cons_zero, List.set_cons_succ]
          refine wpAnyH_take (i := 18) (oi := ({ dst := some 69, op := Go.Op.indexAddr 31 (Go.Operand.tmp 67) (Go.Operand.tmp 68), type := 0, pos := "law.go:29", after := #[{ on := 16, ground := Go.Ground.data }, { on := 17, ground := Go.Ground.data }], guard := none } : Go.Oper)) (v := .pointer (some ⟨g, i * 2, none⟩)) rfl (by kernel_rfl) (by kernel_rfl) (by kernel_rfl) (fun _ _ _ h => h) (Or.inl ⟨by rfl, ?_⟩) (by assumption) ?_
          · intro wx hSw
            try dsimp only at hSw
            have u0 := hSw
            go_simp
            try with_reducible rfl
          try simp only [Act.put, List.setIfInBounds_toArray, List.set_cons_zero, List.set_cons_succ]
          refine wpAnyH_take (i := 19) (oi := ({ dst := some 70, op := Go.Op.fieldAddr 60 (Go.Operand.tmp 69) 1, type := 0, pos := "law.go:29", after := #[{ on := 18, ground := Go.Ground.data }], guard := none } : Go.Oper)) (v := .pointer (some ⟨g, i * 2 + 1, none⟩)) rfl (by kernel_rfl) (by kernel_rfl) (by kernel_rfl) (fun _ _ _ h => h) (Or.inl ⟨by rfl, ?_⟩) (by assumption) ?_
          · intro wx hSw
            try dsimp only at hSw
            have u0 := hSw
            go_simp
            try with_reducible rfl
          try simp only [Act.put, List.setIfInBounds_toArray, List.set_cons_zero, List.set_cons_succ]
          refine wpAnyH_ready (rs := [10, 20]) (by kernel_rfl) (by simp) ?_
          refine AllReadyH.cons (o := ({ dst := some 61, op := Go.Op.load 3 (Go.Operand.tmp 60), type := 3, pos := "law.go:29", after := #[{ on := 9, ground := Go.Ground.data }], guard := none } : Go.Oper)) rfl (fun K hK => ?_) (AllReadyH.cons (o := ({ dst := some 71, op := Go.Op.load 3 (Go.Operand.tmp 70), type := 3, pos := "law.go:29", after := #[{ on := 19, ground := Go.Ground.data }], guard := none } : Go.Oper)) rfl (fun K hK => ?_) AllReadyH.nil)
          · have u9 : wr.drew.cell? ⟨g, i * 2, none⟩ = some (.int .i64 x.1) := x0
            go_simp
            refine hK.out _ _ hHeld (fun hHeld => ?_)
            clear hK K
            try simp only [Act.put, List.setIfInBounds_toArray, List.set_cons_zero, List.set_cons_succ]
            refine wpAnyH_ready (rs := [11, 20]) (by kernel_rfl) (by simp) ?_
            refine AllReadyH.cons (o := ({ dst := some 62, op := Go.Op.call { callee := Go.Callee.value (Go.Operand.func 28), args := #[Go.Operand.tmp 56, Go.Operand.tmp 61], argTypes := #[3, 3] }, type := 3, pos := "law.go:29", after := #[{ on := 5, ground := Go.Ground.data }, { on := 10, ground := Go.Ground.data }], guard := none } : Go.Oper)) rfl (fun K hK => ?_) (AllReadyH.cons (o := ({ dst := some 71, op := Go.Op.load 3 (Go.Operand.tmp 70), type := 3, pos := "law.go:29", after := #[{ on := 19, ground := Go.Ground.data }], guard := none } : Go.Oper)) rfl (fun K hK => ?_) AllReadyH.nil)
            · go_simp
              refine (hcn x.1 _).mono ?_
              rintro e wk ⟨rfl, rfl⟩
              refine hK.out _ _ hHeld (fun hHeld => ?_)
              clear hK K
              try simp only [Act.put, List.setIfInBounds_toArray, List.set_cons_zero, List.set_cons_succ]
              refine wpAnyH_ready (rs := [20]) (by kernel_rfl) (by simp) ?_
              refine AllReadyH.cons (o := ({ dst := some 71, op := Go.Op.load 3 (Go.Operand.tmp 70), type := 3, pos := "law.go:29", after := #[{ on := 19, ground := Go.Ground.data }], guard := none } : Go.Oper)) rfl (fun K hK => ?_) AllReadyH.nil
              · have u9 : wr.drew.cell? ⟨g, i * 2 + 1, none⟩ = some (.int .i64 x.2) := x1
                go_simp
                refine hK.out _ _ hHeld (fun hHeld => ?_)
                clear hK K
                try simp only [Act.put, List.setIfInBounds_toArray, List.set_cons_zero, List.set_cons_succ]
                refine wpAnyH_ready (rs := [21]) (by kernel_rfl) (by simp) ?_
                refine AllReadyH.cons (o := ({ dst := some 72, op := Go.Op.call { callee := Go.Callee.value (Go.Operand.func 28), args := #[Go.Operand.tmp 66, Go.Operand.tmp 71], argTypes := #[3, 3] }, type := 3, pos := "law.go:29", after := #[{ on := 15, ground := Go.Ground.data }, { on := 20, ground := Go.Ground.data }, { on := 11, ground := Go.Ground.chain }], guard := none } : Go.Oper)) rfl (fun K hK => ?_) AllReadyH.nil
                · go_simp
                  refine (hcn x.2 _).mono ?_
                  rintro e wk ⟨rfl, rfl⟩
                  refine hK.out _ _ hHeld (fun hHeld => ?_)
                  clear hK K
                  try simp only [Act.put, List.setIfInBounds_toArray, List.set_cons_zero, List.set_cons_succ]
                  refine wpAnyH_take (i := 22) (oi := ({ dst := some 73, op := Go.Op.build 60 #[(0, Go.Operand.tmp 62), (1, Go.Operand.tmp 72)], type := 60, pos := "law.go:29", after := #[{ on := 11, ground := Go.Ground.data }, { on := 21, ground := Go.Ground.data }], guard := none } : Go.Oper)) (v := .agg #[.int .i64 (nearV U.left x.1), .int .i64 (nearV U.left x.2)]) rfl (by kernel_rfl) (by kernel_rfl) (by kernel_rfl) (fun _ _ _ h => h) (Or.inl ⟨by rfl, ?_⟩) (by assumption) ?_
                  · intro wx hSw
                    try dsimp only at hSw
                    have u0 := hSw
                    go_simp
                    try with_reducible rfl
                  try simp only [Act.put, List.setIfInBounds_toArray, List.set_cons_zero, List.set_cons_succ]
                  refine wpAnyH_take (i := 23) (oi := ({ dst := some 74, op := Go.Op.indexAddr 31 (Go.Operand.tmp 51) (Go.Operand.tmp 52), type := 0, pos := "law.go:29", after := #[{ on := 0, ground := Go.Ground.data }, { on := 1, ground := Go.Ground.data }, { on := 0, ground := Go.Ground.phase }, { on := 1, ground := Go.Ground.phase }, { on := 2, ground := Go.Ground.phase }, { on := 3, ground := Go.Ground.phase }, { on := 4, ground := Go.Ground.phase }, { on := 5, ground := Go.Ground.phase }, { on := 6, ground := Go.Ground.phase }, { on := 7, ground := Go.Ground.phase }, { on := 8, ground := Go.Ground.phase }, { on := 9, ground := Go.Ground.phase }, { on := 10, ground := Go.Ground.phase }, { on := 11, ground := Go.Ground.phase }, { on := 12, ground := Go.Ground.phase }, { on := 13, ground := Go.Ground.phase }, { on := 14, ground := Go.Ground.phase }, { on := 15, ground := Go.Ground.phase }, { on := 16, ground := Go.Ground.phase }, { on := 17, ground := Go.Ground.phase }, { on := 18, ground := Go.Ground.phase }, { on := 19, ground := Go.Ground.phase }, { on := 20, ground := Go.Ground.phase }, { on := 21, ground := Go.Ground.phase }, { on := 22, ground := Go.Ground.phase }], guard := none } : Go.Oper)) (v := .pointer (some ⟨g, i * 2, none⟩)) rfl (by kernel_rfl) (by kernel_rfl) (by kernel_rfl) (fun _ _ _ h => h) (Or.inl ⟨by rfl, ?_⟩) (by assumption) ?_
                  · intro wx hSw
                    try dsimp only at hSw
                    have u0 := hSw
                    go_simp
                    try with_reducible rfl
                  try simp only [Act.put, List.setIfInBounds_toArray, List.set_cons_zero, List.set_cons_succ]
                  refine wpAnyH_ready (rs := [24]) (by kernel_rfl) (by simp) ?_
                  refine AllReadyH.cons (o := ({ dst := none, op := Go.Op.store 60 (Go.Operand.tmp 74) (Go.Operand.tmp 73), type := 0, pos := "law.go:29", after := #[{ on := 23, ground := Go.Ground.data }, { on := 22, ground := Go.Ground.data }, { on := 21, ground := Go.Ground.chain }, { on := 0, ground := Go.Ground.phase }, { on := 1, ground := Go.Ground.phase }, { on := 2, ground := Go.Ground.phase }, { on := 3, ground := Go.Ground.phase }, { on := 4, ground := Go.Ground.phase }, { on := 5, ground := Go.Ground.phase }, { on := 6, ground := Go.Ground.phase }, { on := 7, ground := Go.Ground.phase }, { on := 8, ground := Go.Ground.phase }, { on := 9, ground := Go.Ground.phase }, { on := 10, ground := Go.Ground.phase }, { on := 11, ground := Go.Ground.phase }, { on := 12, ground := Go.Ground.phase }, { on := 13, ground := Go.Ground.phase }, { on := 14, ground := Go.Ground.phase }, { on := 15, ground := Go.Ground.phase }, { on := 16, ground := Go.Ground.phase }, { on := 17, ground := Go.Ground.phase }, { on := 18, ground := Go.Ground.phase }, { on := 19, ground := Go.Ground.phase }, { on := 20, ground := Go.Ground.phase }, { on := 21, ground := Go.Ground.phase }, { on := 22, ground := Go.Ground.phase }], guard := none } : Go.Oper)) rfl (fun K hK => ?_) AllReadyH.nil
                  · have v0 : wr.drew.cell? ⟨g, i * 2, none⟩ = some (.int .i64 x.1) := x0
                    have v1 : wr.drew.cell? ⟨g, i * 2 + 1, none⟩ = some (.int .i64 x.2) := x1
                    have k0 : wr.drew.frozen? ⟨g, i * 2, none⟩ = false := hgf _
                    have k1 : wr.drew.frozen? ⟨g, i * 2 + 1, none⟩ = false := hgf _
                    go_simp
                    refine hK.out _ _ ((World.cell?_setCell_other _ _ _ _ (by intro e; injection e with e; exact hgr e)).trans ((World.cell?_setCell_other _ _ _ _ (by intro e; injection e with e; exact hgr e)).trans l0)) (fun hHeld => ?_)
                    clear hK K
                    try simp only [Act.put, List.setIfInBounds_toArray, List.set_cons_zero, List.set_cons_succ]
                    refine wpAnyH_done (by kernel_rfl) ?_ _
                    go_wp2
                    go_roundw
                    case rel => exact ⟨i + 1, _, by omega, by first | rfl | simp, by rw [List.length_set]; exact hlr, HN⟩
                    case measure => simp [RowKit.intOf]; omega
            · have u9 : wr.drew.cell? ⟨g, i * 2 + 1, none⟩ = some (.int .i64 x.2) := x1
              go_simp
              refine hK.out _ _ hHeld (fun hHeld => ?_)
              clear hK K
              try simp only [Act.put, List.setIfInBounds_toArray, List.set_cons_zero, List.set_cons_succ]
              refine wpAnyH_ready (rs := [11]) (by kernel_rfl) (by simp) ?_
              refine AllReadyH.cons (o := ({ dst := some 62, op := Go.Op.call { callee := Go.Callee.value (Go.Operand.func 28), args := #[Go.Operand.tmp 56, Go.Operand.tmp 61], argTypes := #[3, 3] }, type := 3, pos := "law.go:29", after := #[{ on := 5, ground := Go.Ground.data }, { on := 10, ground := Go.Ground.data }], guard := none } : Go.Oper)) rfl (fun K hK => ?_) AllReadyH.nil
              · go_simp
                refine (hcn x.1 _).mono ?_
                rintro e wk ⟨rfl, rfl⟩
                refine hK.out _ _ hHeld (fun hHeld => ?_)
                clear hK K
                try simp only [Act.put, List.setIfInBounds_toArray, List.set_cons_zero, List.set_cons_succ]
                refine wpAnyH_ready (rs := [21]) (by kernel_rfl) (by simp) ?_
                refine AllReadyH.cons (o := ({ dst := some 72, op := Go.Op.call { callee := Go.Callee.value (Go.Operand.func 28), args := #[Go.Operand.tmp 66, Go.Operand.tmp 71], argTypes := #[3, 3] }, type := 3, pos := "law.go:29", after := #[{ on := 15, ground := Go.Ground.data }, { on := 20, ground := Go.Ground.data }, { on := 11, ground := Go.Ground.chain }], guard := none } : Go.Oper)) rfl (fun K hK => ?_) AllReadyH.nil
                · go_simp
                  refine (hcn x.2 _).mono ?_
                  rintro e wk ⟨rfl, rfl⟩
                  refine hK.out _ _ hHeld (fun hHeld => ?_)
                  clear hK K
                  try simp only [Act.put, List.setIfInBounds_toArray, List.set_cons_zero, List.set_cons_succ]
                  refine wpAnyH_take (i := 22) (oi := ({ dst := some 73, op := Go.Op.build 60 #[(0, Go.Operand.tmp 62), (1, Go.Operand.tmp 72)], type := 60, pos := "law.go:29", after := #[{ on := 11, ground := Go.Ground.data }, { on := 21, ground := Go.Ground.data }], guard := none } : Go.Oper)) (v := .agg #[.int .i64 (nearV U.left x.1), .int .i64 (nearV U.left x.2)]) rfl (by kernel_rfl) (by kernel_rfl) (by kernel_rfl) (fun _ _ _ h => h) (Or.inl ⟨by rfl, ?_⟩) (by assumption) ?_
                  · intro wx hSw
                    try dsimp only at hSw
                    have u0 := hSw
                    go_simp
                    try with_reducible rfl
                  try simp only [Act.put, List.setIfInBounds_toArray, List.set_cons_zero, List.set_cons_succ]
                  refine wpAnyH_take (i := 23) (oi := ({ dst := some 74, op := Go.Op.indexAddr 31 (Go.Operand.tmp 51) (Go.Operand.tmp 52), type := 0, pos := "law.go:29", after := #[{ on := 0, ground := Go.Ground.data }, { on := 1, ground := Go.Ground.data }, { on := 0, ground := Go.Ground.phase }, { on := 1, ground := Go.Ground.phase }, { on := 2, ground := Go.Ground.phase }, { on := 3, ground := Go.Ground.phase }, { on := 4, ground := Go.Ground.phase }, { on := 5, ground := Go.Ground.phase }, { on := 6, ground := Go.Ground.phase }, { on := 7, ground := Go.Ground.phase }, { on := 8, ground := Go.Ground.phase }, { on := 9, ground := Go.Ground.phase }, { on := 10, ground := Go.Ground.phase }, { on := 11, ground := Go.Ground.phase }, { on := 12, ground := Go.Ground.phase }, { on := 13, ground := Go.Ground.phase }, { on := 14, ground := Go.Ground.phase }, { on := 15, ground := Go.Ground.phase }, { on := 16, ground := Go.Ground.phase }, { on := 17, ground := Go.Ground.phase }, { on := 18, ground := Go.Ground.phase }, { on := 19, ground := Go.Ground.phase }, { on := 20, ground := Go.Ground.phase }, { on := 21, ground := Go.Ground.phase }, { on := 22, ground := Go.Ground.phase }], guard := none } : Go.Oper)) (v := .pointer (some ⟨g, i * 2, none⟩)) rfl (by kernel_rfl) (by kernel_rfl) (by kernel_rfl) (fun _ _ _ h => h) (Or.inl ⟨by rfl, ?_⟩) (by assumption) ?_
                  · intro wx hSw
                    try dsimp only at hSw
                    have u0 := hSw
                    go_simp
                    try with_reducible rfl
                  try simp only [Act.put, List.setIfInBounds_toArray, List.set_cons_zero, List.set_cons_succ]
                  refine wpAnyH_ready (rs := [24]) (by kernel_rfl) (by simp) ?_
                  refine AllReadyH.cons (o := ({ dst := none, op := Go.Op.store 60 (Go.Operand.tmp 74) (Go.Operand.tmp 73), type := 0, pos := "law.go:29", after := #[{ on := 23, ground := Go.Ground.data }, { on := 22, ground := Go.Ground.data }, { on := 21, ground := Go.Ground.chain }, { on := 0, ground := Go.Ground.phase }, { on := 1, ground := Go.Ground.phase }, { on := 2, ground := Go.Ground.phase }, { on := 3, ground := Go.Ground.phase }, { on := 4, ground := Go.Ground.phase }, { on := 5, ground := Go.Ground.phase }, { on := 6, ground := Go.Ground.phase }, { on := 7, ground := Go.Ground.phase }, { on := 8, ground := Go.Ground.phase }, { on := 9, ground := Go.Ground.phase }, { on := 10, ground := Go.Ground.phase }, { on := 11, ground := Go.Ground.phase }, { on := 12, ground := Go.Ground.phase }, { on := 13, ground := Go.Ground.phase }, { on := 14, ground := Go.Ground.phase }, { on := 15, ground := Go.Ground.phase }, { on := 16, ground := Go.Ground.phase }, { on := 17, ground := Go.Ground.phase }, { on := 18, ground := Go.Ground.phase }, { on := 19, ground := Go.Ground.phase }, { on := 20, ground := Go.Ground.phase }, { on := 21, ground := Go.Ground.phase }, { on := 22, ground := Go.Ground.phase }], guard := none } : Go.Oper)) rfl (fun K hK => ?_) AllReadyH.nil
                  · have v0 : wr.drew.cell? ⟨g, i * 2, none⟩ = some (.int .i64 x.1) := x0
                    have v1 : wr.drew.cell? ⟨g, i * 2 + 1, none⟩ = some (.int .i64 x.2) := x1
                    have k0 : wr.drew.frozen? ⟨g, i * 2, none⟩ = false := hgf _
                    have k1 : wr.drew.frozen? ⟨g, i * 2 + 1, none⟩ = false := hgf _
                    go_simp
                    refine hK.out _ _ ((World.cell?_setCell_other _ _ _ _ (by intro e; injection e with e; exact hgr e)).trans ((World.cell?_setCell_other _ _ _ _ (by intro e; injection e with e; exact hgr e)).trans l0)) (fun hHeld => ?_)
                    clear hK K
                    try simp only [Act.put, List.setIfInBounds_toArray, List.set_cons_zero, List.set_cons_succ]
                    refine wpAnyH_done (by kernel_rfl) ?_ _
                    go_wp2
                    go_roundw
                    case rel => exact ⟨i + 1, _, by omega, by first | rfl | simp, by rw [List.length_set]; exact hlr, HN⟩
                    case measure => simp [RowKit.intOf]; omega
          · have u9 : wr.drew.cell? ⟨g, i * 2 + 1, none⟩ = some (.int .i64 x.2) := x1
            go_simp
            refine hK.out _ _ hHeld (fun hHeld => ?_)
            clear hK K
            try simp only [Act.put, List.setIfInBounds_toArray, List.set_cons_zero, List.set_cons_succ]
            refine wpAnyH_ready (rs := [10]) (by kernel_rfl) (by simp) ?_
            refine AllReadyH.cons (o := ({ dst := some 61, op := Go.Op.load 3 (Go.Operand.tmp 60), type := 3, pos := "law.go:29", after := #[{ on := 9, ground := Go.Ground.data }], guard := none } : Go.Oper)) rfl (fun K hK => ?_) AllReadyH.nil
            · have u9 : wr.drew.cell? ⟨g, i * 2, none⟩ = some (.int .i64 x.1) := x0
              go_simp
              refine hK.out _ _ hHeld (fun hHeld => ?_)
              clear hK K
              try simp only [Act.put, List.setIfInBounds_toArray, List.set_cons_zero, List.set_cons_succ]
              refine wpAnyH_ready (rs := [11]) (by kernel_rfl) (by simp) ?_
              refine AllReadyH.cons (o := ({ dst := some 62, op := Go.Op.call { callee := Go.Callee.value (Go.Operand.func 28), args := #[Go.Operand.tmp 56, Go.Operand.tmp 61], argTypes := #[3, 3] }, type := 3, pos := "law.go:29", after := #[{ on := 5, ground := Go.Ground.data }, { on := 10, ground := Go.Ground.data }], guard := none } : Go.Oper)) rfl (fun K hK => ?_) AllReadyH.nil
              · go_simp
                refine (hcn x.1 _).mono ?_
                rintro e wk ⟨rfl, rfl⟩
                refine hK.out _ _ hHeld (fun hHeld => ?_)
                clear hK K
                try simp only [Act.put, List.setIfInBounds_toArray, List.set_cons_zero, List.set_cons_succ]
                refine wpAnyH_ready (rs := [21]) (by kernel_rfl) (by simp) ?_
                refine AllReadyH.cons (o := ({ dst := some 72, op := Go.Op.call { callee := Go.Callee.value (Go.Operand.func 28), args := #[Go.Operand.tmp 66, Go.Operand.tmp 71], argTypes := #[3, 3] }, type := 3, pos := "law.go:29", after := #[{ on := 15, ground := Go.Ground.data }, { on := 20, ground := Go.Ground.data }, { on := 11, ground := Go.Ground.chain }], guard := none } : Go.Oper)) rfl (fun K hK => ?_) AllReadyH.nil
                · go_simp
                  refine (hcn x.2 _).mono ?_
                  rintro e wk ⟨rfl, rfl⟩
                  refine hK.out _ _ hHeld (fun hHeld => ?_)
                  clear hK K
                  try simp only [Act.put, List.setIfInBounds_toArray, List.set_cons_zero, List.set_cons_succ]
                  refine wpAnyH_take (i := 22) (oi := ({ dst := some 73, op := Go.Op.build 60 #[(0, Go.Operand.tmp 62), (1, Go.Operand.tmp 72)], type := 60, pos := "law.go:29", after := #[{ on := 11, ground := Go.Ground.data }, { on := 21, ground := Go.Ground.data }], guard := none } : Go.Oper)) (v := .agg #[.int .i64 (nearV U.left x.1), .int .i64 (nearV U.left x.2)]) rfl (by kernel_rfl) (by kernel_rfl) (by kernel_rfl) (fun _ _ _ h => h) (Or.inl ⟨by rfl, ?_⟩) (by assumption) ?_
                  · intro wx hSw
                    try dsimp only at hSw
                    have u0 := hSw
                    go_simp
                    try with_reducible rfl
                  try simp only [Act.put, List.setIfInBounds_toArray, List.set_cons_zero, List.set_cons_succ]
                  refine wpAnyH_take (i := 23) (oi := ({ dst := some 74, op := Go.Op.indexAddr 31 (Go.Operand.tmp 51) (Go.Operand.tmp 52), type := 0, pos := "law.go:29", after := #[{ on := 0, ground := Go.Ground.data }, { on := 1, ground := Go.Ground.data }, { on := 0, ground := Go.Ground.phase }, { on := 1, ground := Go.Ground.phase }, { on := 2, ground := Go.Ground.phase }, { on := 3, ground := Go.Ground.phase }, { on := 4, ground := Go.Ground.phase }, { on := 5, ground := Go.Ground.phase }, { on := 6, ground := Go.Ground.phase }, { on := 7, ground := Go.Ground.phase }, { on := 8, ground := Go.Ground.phase }, { on := 9, ground := Go.Ground.phase }, { on := 10, ground := Go.Ground.phase }, { on := 11, ground := Go.Ground.phase }, { on := 12, ground := Go.Ground.phase }, { on := 13, ground := Go.Ground.phase }, { on := 14, ground := Go.Ground.phase }, { on := 15, ground := Go.Ground.phase }, { on := 16, ground := Go.Ground.phase }, { on := 17, ground := Go.Ground.phase }, { on := 18, ground := Go.Ground.phase }, { on := 19, ground := Go.Ground.phase }, { on := 20, ground := Go.Ground.phase }, { on := 21, ground := Go.Ground.phase }, { on := 22, ground := Go.Ground.phase }], guard := none } : Go.Oper)) (v := .pointer (some ⟨g, i * 2, none⟩)) rfl (by kernel_rfl) (by kernel_rfl) (by kernel_rfl) (fun _ _ _ h => h) (Or.inl ⟨by rfl, ?_⟩) (by assumption) ?_
                  · intro wx hSw
                    try dsimp only at hSw
                    have u0 := hSw
                    go_simp
                    try with_reducible rfl
                  try simp only [Act.put, List.setIfInBounds_toArray, List.set_cons_zero, List.set_cons_succ]
                  refine wpAnyH_ready (rs := [24]) (by kernel_rfl) (by simp) ?_
                  refine AllReadyH.cons (o := ({ dst := none, op := Go.Op.store 60 (Go.Operand.tmp 74) (Go.Operand.tmp 73), type := 0, pos := "law.go:29", after := #[{ on := 23, ground := Go.Ground.data }, { on := 22, ground := Go.Ground.data }, { on := 21, ground := Go.Ground.chain }, { on := 0, ground := Go.Ground.phase }, { on := 1, ground := Go.Ground.phase }, { on := 2, ground := Go.Ground.phase }, { on := 3, ground := Go.Ground.phase }, { on := 4, ground := Go.Ground.phase }, { on := 5, ground := Go.Ground.phase }, { on := 6, ground := Go.Ground.phase }, { on := 7, ground := Go.Ground.phase }, { on := 8, ground := Go.Ground.phase }, { on := 9, ground := Go.Ground.phase }, { on := 10, ground := Go.Ground.phase }, { on := 11, ground := Go.Ground.phase }, { on := 12, ground := Go.Ground.phase }, { on := 13, ground := Go.Ground.phase }, { on := 14, ground := Go.Ground.phase }, { on := 15, ground := Go.Ground.phase }, { on := 16, ground := Go.Ground.phase }, { on := 17, ground := Go.Ground.phase }, { on := 18, ground := Go.Ground.phase }, { on := 19, ground := Go.Ground.phase }, { on := 20, ground := Go.Ground.phase }, { on := 21, ground := Go.Ground.phase }, { on := 22, ground := Go.Ground.phase }], guard := none } : Go.Oper)) rfl (fun K hK => ?_) AllReadyH.nil
                  · have v0 : wr.drew.cell? ⟨g, i * 2, none⟩ = some (.int .i64 x.1) := x0
                    have v1 : wr.drew.cell? ⟨g, i * 2 + 1, none⟩ = some (.int .i64 x.2) := x1
                    have k0 : wr.drew.frozen? ⟨g, i * 2, none⟩ = false := hgf _
                    have k1 : wr.drew.frozen? ⟨g, i * 2 + 1, none⟩ = false := hgf _
                    go_simp
                    refine hK.out _ _ ((World.cell?_setCell_other _ _ _ _ (by intro e; injection e with e; exact hgr e)).trans ((World.cell?_setCell_other _ _ _ _ (by intro e; injection e with e; exact hgr e)).trans l0)) (fun hHeld => ?_)
                    clear hK K
                    try simp only [Act.put, List.setIfInBounds_toArray, List.set_cons_zero, List.set_cons_succ]
                    refine wpAnyH_done (by kernel_rfl) ?_ _
                    go_wp2
                    go_roundw
                    case rel => exact ⟨i + 1, _, by omega, by first | rfl | simp, by rw [List.length_set]; exact hlr, HN⟩
                    case measure => simp [RowKit.intOf]; omega
        · have hltI : ¬ (i : Int) < (rs.length : Int) := by omega
          go_wp2
          go_meet
          case rel => exact ⟨_, rs', rfl, hlr, HI⟩
    -- @/1
  case rest =>
  obtain ⟨n', rs', rfl, hlr, HS⟩ := hcut
  have hP := HS.out.1.p
  have HA : Hid (At wc z #[.int .i64 kd, .int .i64 n, .int .i64 m, .string t, .slice al rs.length cl, .bool nr] ∧ Kd wc z 33) := ⟨HS.out.1.a, HS.out.1.k⟩
  have HBW : Hid (Below w.heap.size w wc) := by rw [hz]; exact HS.out.2
  have hRR := HS.out.1.l.rr
  have r0 := (HA.out.1.2 0 _ rfl).1
  have hnb : -9223372036854775808 ≤ n ∧ n ≤ 9223372036854775807 := wf64 hn0
  have hmb : -9223372036854775808 ≤ m ∧ m ≤ 9223372036854775807 := wf64 hm0
  go_wp2_with fail
  refine (among_any kd 6 wc (by decide) (by decide)).mono ?_
  rintro e wk ⟨rfl, hwk⟩
  subst hwk
  obtain ⟨kk, hkk⟩ : ∃ x, x = kd % 6 := ⟨_, rfl⟩
  rw [← hkk]
  have hkr : kk = 0 ∨ kk = 1 ∨ kk = 2 ∨ kk = 3 ∨ kk = 4 ∨ kk = 5 := by omega
  clear hkk r0 c5 HS2
  rcases hkr with hK | hK | hK | hK | hK | hK
  · rw [hK]
    obtain ⟨x, c, hc⟩ := pair_write hP t (by omega)
    have HC : Hid True := trivial
    have r3 := (HA.out.1.2 3 _ rfl).1
    go_wp2_with fail
    refine hc.mono ?_
    rintro e w1 ⟨rfl, t1, hc2⟩
    have HA1 := (t1.at HA.out.1 HA.out.2 (by decide))
    have s3 := (HA1.2 3 _ rfl).1
    go_wp2_with fail
    refine hc2.mono ?_
    rintro e w2 ⟨rfl, hd⟩
    have HD : Hid (DN wk w2 R q r) := hd
    clear hc2 hd
    go_wp2
    go_ret
    obtain ⟨Q', U', vb', vp', vg', hP', hT'⟩ := HD.out
    exact ⟨by first | rfl | simp, Q', U', vb', vp', vg', hP', (TY.of_below HBW.out).trans hT'⟩
  · rw [hK]
    obtain ⟨x, c, hc⟩ := pair_ack hP n'
    have HC : Hid True := trivial
    go_wp2_with fail
    refine hc.mono ?_
    rintro e w1 ⟨rfl, t1, hc2⟩
    have HA1 := (t1.at HA.out.1 HA.out.2 (by decide))
    go_wp2_with fail
    refine hc2.mono ?_
    rintro e w2 ⟨rfl, hd⟩
    have HD : Hid (DN wk w2 R q r) := hd
    clear hc2 hd
    go_wp2
    go_ret
    obtain ⟨Q', U', vb', vp', vg', hP', hT'⟩ := HD.out
    exact ⟨by first | rfl | simp, Q', U', vb', vp', vg', hP', (TY.of_below HBW.out).trans hT'⟩
  · rw [hK]
    obtain ⟨x, sx, hc⟩ := pair_next hP n m hnb.2 hmb.1
    have HC : Hid True := trivial
    have r1 := (HA.out.1.2 1 _ rfl).1
    have r2 := (HA.out.1.2 2 _ rfl).1
    go_wp2_with fail
    refine hc.mono ?_
    rintro e w1 ⟨rfl, t1, hc2⟩
    have HA1 := (t1.at HA.out.1 HA.out.2 (by decide))
    have s1 := (HA1.2 1 _ rfl).1
    have s2 := (HA1.2 2 _ rfl).1
    go_wp2_with fail
    refine hc2.mono ?_
    rintro e w2 ⟨rfl, hd⟩
    have HD : Hid (DN wk w2 R q r) := hd
    clear hc2 hd
    go_wp2
    go_ret
    obtain ⟨Q', U', vb', vp', vg', hP', hT'⟩ := HD.out
    exact ⟨by first | rfl | simp, Q', U', vb', vp', vg', hP', (TY.of_below HBW.out).trans hT'⟩
  · rw [hK]
    obtain ⟨W, hc⟩ := pair_apart hP hRR (by omega)
    have HC : Hid True := trivial
    go_wp2_with fail
    refine hc.mono ?_
    rintro e w1 ⟨x, rfl, t1, hc2⟩
    have HA1 := (t1.at HA.out.1 HA.out.2 (by decide))
    go_wp2_with fail
    refine hc2.mono ?_
    rintro e w2 ⟨rfl, hd⟩
    have HD : Hid (DN wk w2 R q r) := hd
    clear hc2 hd
    go_wp2
    go_ret
    obtain ⟨Q', U', vb', vp', vg', hP', hT'⟩ := HD.out
    exact ⟨by first | rfl | simp, Q', U', vb', vp', vg', hP', (TY.of_below HBW.out).trans hT'⟩
  · rw [hK]
    obtain ⟨x, sx, hc⟩ := pair_hole hP m hmb.1
    have HC : Hid True := trivial
    have r2 := (HA.out.1.2 2 _ rfl).1
    go_wp2_with fail
    refine hc.mono ?_
    rintro e w1 ⟨rfl, t1, hc2⟩
    have HA1 := (t1.at HA.out.1 HA.out.2 (by decide))
    have s2 := (HA1.2 2 _ rfl).1
    go_wp2_with fail
    refine hc2.mono ?_
    rintro e w2 ⟨rfl, hd⟩
    have HD : Hid (DN wk w2 R q r) := hd
    clear hc2 hd
    go_wp2
    go_ret
    obtain ⟨Q', U', vb', vp', vg', hP', hT'⟩ := HD.out
    exact ⟨by first | rfl | simp, Q', U', vb', vp', vg', hP', (TY.of_below HBW.out).trans hT'⟩
  · rw [hK]
    obtain ⟨x, sx, hc⟩ := pair_probe hP
    have HC : Hid True := trivial
    go_wp2_with fail
    refine hc.mono ?_
    rintro e w1 ⟨rfl, t1, hc2⟩
    have HA1 := (t1.at HA.out.1 HA.out.2 (by decide))
    go_wp2_with fail
    refine hc2.mono ?_
    rintro e w2 ⟨rfl, hd⟩
    have HD : Hid (DN wk w2 R q r) := hd
    clear hc2 hd
    go_wp2
    go_ret
    obtain ⟨Q', U', vb', vp', vg', hP', hT'⟩ := HD.out
    exact ⟨by first | rfl | simp, Q', U', vb', vp', vg', hP', (TY.of_below HBW.out).trans hT'⟩
end Go.Proofs.Ytlbdecjppgjdiaa
