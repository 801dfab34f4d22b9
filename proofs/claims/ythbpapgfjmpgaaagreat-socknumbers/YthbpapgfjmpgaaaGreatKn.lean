/- SockNumbers, walked. -/
import Derived.Test.YthbpapgfjmpgaaaGreatKm
namespace Go.Proofs.YthbpapgfjmpgaaaGreat
open Go.RowKit Go.Maps
set_option maxRecDepth 100000
set_option linter.unusedVariables false
set_option linter.unusedSimpArgs false


def Arg (w : World) (a : Option Addr) (zs : List Int) : Prop := zs = [] ∨ ∃ x, a = some x ∧ ∀ i, i < zs.length → w.cell? (x.add i) = some (.int .i64 (zs.getD i 0))
theorem zeroI (w : World) : (zeroValue 3).run Tryz.prog w = .ok (.int .i64 0) w := by kernel_rfl
theorem zeroB (w : World) : (zeroValue 4).run Tryz.prog w = .ok (.bool false) w := by kernel_rfl
theorem wf_num {k : Int} (h0 : -1000000 ≤ k) (h1 : k ≤ 1000000) : (Lit.int .i64 k).wf = true := WalkArith.wf_i64 (by omega)
/-- The law's box, and its two maps. -/
structure LI (n0 : Nat) (w : World) (B T L M P U : Nat) (s : Nat → Int) (v : Value) (l lp lu : List Vn) : Prop where
  a : AK w B T L M s v l
  p : VM w P lp
  u : VM w U lu
  dp : P ≠ B ∧ P ≠ T ∧ P ≠ L ∧ P ≠ M
  du : U ≠ B ∧ U ≠ T ∧ U ≠ L ∧ U ≠ M
  pu : P ≠ U
  o : ∀ k, v.ownBlock = some k → k ≠ P ∧ k ≠ U ∧ n0 ≤ k
  b : n0 ≤ B ∧ n0 ≤ T ∧ n0 ≤ L ∧ n0 ≤ P ∧ n0 ≤ U
theorem VM.look33 {w : World} {M : Nat} {l : List Vn} {k : Int} (h : VM w M l) (hk : (Lit.int .i64 k).wf = true) : (Instr.lookup 33 (.map (some M)) (.int .i64 k) false).run Tryz.prog w = .ok ((vlk l k).getD (.int .i64 0)) w := h.look Tryz.underlying33 zeroI hk
theorem VM.look34 {w : World} {M : Nat} {l : List Vn} {k : Int} (h : VM w M l) (hk : (Lit.int .i64 k).wf = true) : (Instr.lookup 34 (.map (some M)) (.int .i64 k) false).run Tryz.prog w = .ok ((vlk l k).getD (.bool false)) w := h.look Tryz.underlying34 zeroB hk
theorem VM.drew {w : World} {M : Nat} {l : List Vn} (h : VM w M l) : VM w.drew M l := h.later (Below.refl _ _).drew
/-- What Ask leaves of the law's state. -/
theorem LI.ask {n0 : Nat} {w w' : World} {B T L M P U : Nat} {s s' : Nat → Int} {v v' : Value} {l l' lp lu : List Vn} (h : LI n0 w B T L M P U s v l lp lu) (hn : n0 ≤ w.heap.size) (ha : AK w' B T L M s' v' l') (hv : v'.ownBlock = v.ownBlock ∨ ∀ k, v'.ownBlock = some k → w.heap.size ≤ k) (ht : Turn (AS B T L v) w w') : LI n0 w' B T L M P U s' v' l' lp lu := by
  obtain ⟨p1, p2, p3, p4⟩ := h.dp
  obtain ⟨u1, u2, u3, u4⟩ := h.du
  refine ⟨ha, h.p.turn ht ?_, h.u.turn ht ?_, h.dp, h.du, h.pu, fun k hk => ?_, h.b⟩
  · rintro (e | e | e | e)
    · exact p1 e
    · exact p2 e
    · exact p3 e
    · exact (h.o _ e).1 rfl
  · rintro (e | e | e | e)
    · exact u1 e
    · exact u2 e
    · exact u3 e
    · exact (h.o _ e).2.1 rfl
  · rcases hv with e | e
    · rw [e] at hk
      exact h.o k hk
    · have := e k hk
      have := h.p.lt
      have := h.u.lt
      omega
theorem LI.bel {n0 : Nat} {w w' : World} {B T L M P U : Nat} {s : Nat → Int} {v : Value} {l lp lu : List Vn} (h : LI n0 w B T L M P U s v l lp lu) (hn : n0 ≤ w.heap.size) (ht : Turn (AS B T L v) w w') : Below n0 w w' :=
  ht.below hn (fun k hk e => by
    have := AS_ge (n := n0) (by have := h.b; omega) (by have := h.b; omega) (by have := h.b; omega) (fun k hk => (h.o k hk).2.2) e
    omega)
theorem AK.later {w w' : World} {B T L M : Nat} {s : Nat → Int} {v : Value} {l : List Vn} (h : AK w B T L M s v l) (hb : Below w.heap.size w w') : AK w' B T L M s v l := ⟨h.sk.later hb, row_later h.wr hb, h.ap⟩
theorem AK.step {w w' : World} {B T L M P : Nat} {s : Nat → Int} {v : Value} {l : List Vn} (h : AK w B T L M s v l) (ht : Turn (fun k => k = P) w w') (h1 : P ≠ B ∧ P ≠ T ∧ P ≠ L ∧ P ≠ M) (h2 : ∀ k, v.ownBlock = some k → k ≠ P) : AK w' B T L M s v l :=
  ⟨h.sk.step ht h1.1.symm h1.2.1.symm h1.2.2.1.symm h1.2.2.2.symm, row_turn h.wr ht h2, h.ap⟩
theorem LI.later {n0 : Nat} {w w' : World} {B T L M P U : Nat} {s : Nat → Int} {v : Value} {l lp lu : List Vn} (h : LI n0 w B T L M P U s v l lp lu) (hb : Below w.heap.size w w') : LI n0 w' B T L M P U s v l lp lu := ⟨h.a.later hb, h.p.later hb, h.u.later hb, h.dp, h.du, h.pu, h.o, h.b⟩
theorem LI.setP {n0 : Nat} {w w' : World} {B T L M P U : Nat} {s : Nat → Int} {v : Value} {l lp lu lp' : List Vn} (h : LI n0 w B T L M P U s v l lp lu) (hp : VM w' P lp') (ht : Turn (fun k => k = P) w w') : LI n0 w' B T L M P U s v l lp' lu :=
  ⟨h.a.step ht h.dp (fun k hk => (h.o k hk).1), hp, h.u.turn ht (fun e => h.pu e.symm), h.dp, h.du, h.pu, h.o, h.b⟩
theorem LI.setU {n0 : Nat} {w w' : World} {B T L M P U : Nat} {s : Nat → Int} {v : Value} {l lp lu lu' : List Vn} (h : LI n0 w B T L M P U s v l lp lu) (hu : VM w' U lu') (ht : Turn (fun k => k = U) w w') : LI n0 w' B T L M P U s v l lp lu' :=
  ⟨h.a.step ht h.du (fun k hk => (h.o k hk).2.1), h.p.turn ht (fun e => h.pu e), hu, h.dp, h.du, h.pu, h.o, h.b⟩
theorem bel_set {n0 P : Nat} {a b c : World} (h : Below n0 a b) (ht : Turn (fun k => k = P) b c) (hP : n0 ≤ P) (hb : n0 ≤ b.heap.size) : Below n0 a c := h.trans (ht.below hb (fun k hk e => by omega))
set_option maxHeartbeats 8000000 in
theorem numbers_any (a : Option Addr) (cap : Nat) (zs0 : List Int) (w : World) (hi : Arg w a zs0) (hz : zs0.length * 8 ≤ 140737488351232) :
    Calls Tryz.prog 3 #[.slice a zs0.length cap] w fun e w' => e = .returned (.bool true) ∧ Below w.heap.size w w' := by
  have hmm := @run_makeMap Tryz.prog
  have HA : Hid (Arg w a zs0) := hi
  clear hi
  obtain ⟨n, hn⟩ : ∃ n, n = zs0.length := ⟨_, rfl⟩
  rw [← hn] at hz ⊢
  have HN : Hid (n = zs0.length) := hn
  clear hn
  go_enter Tryz.func3, Tryz.ntmps3
  go_wp2_with fail
  refine (setup_any w).mono ?_
  rintro e x1 ⟨rfl, hb1⟩
  go_wp2_with fail
  refine (new_t x1).mono ?_
  rintro e x2 ⟨B, T, L, M, rfl, h2, hB, hT, hL, hM, hb2⟩
  go_wp2_with fail
  refine (works_any x2).mono ?_
  rintro e x3 ⟨rfl, hb3⟩
  have h3 := h2.later hb3
  have q3 := bt hb1 (bt hb2 hb3)
  have hw1 := hb1.size
  have hlt := h3.sk.lt
  have hown : ∀ k, (Value.slice none 0 0).ownBlock = some k → k ≠ x3.heap.size ∧ k ≠ x3.heap.size + 1 ∧ w.heap.size ≤ k := fun k hk => by cases hk
  have q4 := bel1 x3 (.map #[] 0)
  have q5 := bel1 (x3.alloc (.map #[] 0)) (.map #[] 0)
  have z4 : (x3.alloc (.map #[] 0)).heap.size = x3.heap.size + 1 := World.size_alloc _ _
  have hU0 := VM.made (x3.alloc (.map #[] 0))
  rw [z4] at hU0
  have hq3 := q3.size
  have h5 : LI w.heap.size ((x3.alloc (.map #[] 0)).alloc (.map #[] 0)) B T L M x3.heap.size (x3.heap.size + 1) (fun _ => 0) (.slice none 0 0) [] [] [] :=
    ⟨h3.later (bt q4 q5), (VM.made x3).later q5, hU0, by omega, by omega, by omega, hown, by omega⟩
  have q6 := bt q3 (bt q4 q5)
  clear h2 h3 hb1 hb2 hb3 q3 q4 q5 hlt hown hU0 hw1 hB hT hL hM hq3
  go_upto_region 6 with go_in
  generalize (x3.alloc (.map #[] 0)).alloc (.map #[] 0) = x5 at *
  obtain ⟨P, hP⟩ : ∃ x, x = x3.heap.size := ⟨_, rfl⟩
  obtain ⟨U, hU⟩ : ∃ x, x = x3.heap.size + 1 := ⟨_, rfl⟩
  rw [← hU, ← hP] at h5 ⊢
  clear hU hP z4
  go_wp2
  go_loopw [7] (fun i wr => ∃ (k : Nat) (s : Nat → Int) (v : Value) (l lp lu : List Vn), k ≤ n ∧ k ≤ 30 ∧ i = .int .i64 (k : Int) ∧ LI w.heap.size wr B T L M P U s v l lp lu ∧ LP k s l lp lu ∧ Below w.heap.size w wr) (fun i _ => n - (intOf i).toNat)
  case atStart => exact ⟨0, _, _, _, _, _, Nat.zero_le _, Nat.zero_le _, rfl, h5, LP.zero, q6⟩
  case round =>
    clear h5 q6
    obtain ⟨k, s, v, l, lp, lu, hkn, hk30, rfl, hI, hL, hb⟩ := hrel
    by_cases hlt : k < n ∧ k < 30
    rotate_left
    · have HL : Hid _ := hL
      have hfd := fds_any hI.a.sk.b
      have HI : Hid _ := hI
      have HB : Hid _ := hb
      have hlast : ¬ (k : Int) < (n : Int) ∨ ((k : Int) < (n : Int) ∧ ¬ (k : Int) < 30) := by omega
      clear hI hL hb
      rcases hlast with hq | ⟨hq, hq2⟩
      · go_wp2_with fail
        refine hfd.mono ?_
        rintro e x7 ⟨u, zs, rfl, hIn, hzl, hb7⟩
        obtain ⟨ua, uc, rfl, -⟩ := hIn.row
        have hlen : ∀ ty : TypeId, (Builtin.len_ #[33] ty #[.map (some P)]).run Tryz.prog x7 = .ok (.int .i64 lp.length) x7 := fun ty => (HI.out.p.later hb7).len Tryz.underlying33 ty
        rw [HL.out.cn, ← hzl] at hlen
        have hwt := waiting_no (HI.out.a.later hb7)
        have hb8 := Below.trans HB.out (hb7.mono HB.out.size)
        clear hfd hIn hzl hb7
        go_wp2_with fail
        refine hwt.mono ?_
        rintro e x8 ⟨rfl, rfl⟩
        go_wp2
        go_ret
        exact ⟨rfl, hb8⟩
      · go_wp2_with fail
        refine hfd.mono ?_
        rintro e x7 ⟨u, zs, rfl, hIn, hzl, hb7⟩
        obtain ⟨ua, uc, rfl, -⟩ := hIn.row
        have hlen : ∀ ty : TypeId, (Builtin.len_ #[33] ty #[.map (some P)]).run Tryz.prog x7 = .ok (.int .i64 lp.length) x7 := fun ty => (HI.out.p.later hb7).len Tryz.underlying33 ty
        rw [HL.out.cn, ← hzl] at hlen
        have hwt := waiting_no (HI.out.a.later hb7)
        have hb8 := Below.trans HB.out (hb7.mono HB.out.size)
        clear hfd hIn hzl hb7
        go_wp2_with fail
        refine hwt.mono ?_
        rintro e x8 ⟨rfl, rfl⟩
        go_wp2
        go_ret
        exact ⟨rfl, hb8⟩
    have hk1 : (k : Int) < (n : Int) := by omega
    have hk2 : (k : Int) < 30 := by omega
    have hk3 : (0 : Int) ≤ (k : Int) := by omega
    obtain ⟨ax, rfl, hcell⟩ : ∃ x, a = some x ∧ ∀ i, i < zs0.length → w.cell? (x.add i) = some (.int .i64 (zs0.getD i 0)) := by
      rcases HA.out with h | h
      · rw [h] at HN
        have := HN.out
        simp at this
        omega
      · exact h
    have cx := later hb (hcell k (by have := HN.out; omega))
    generalize zs0.getD k 0 = z0 at *
    clear hcell
    go_wp2_with fail
    refine (among_any z0 12 wr (by decide) (by decide)).mono ?_
    rintro e w1 ⟨rfl, rfl⟩
    have hx0 : 0 ≤ z0 % 12 := Int.emod_nonneg _ (by decide)
    have hx1 : z0 % 12 < 12 := Int.emod_lt_of_pos _ (by decide)
    generalize z0 % 12 = x at *
    clear cx
    obtain ⟨m, hm, hm0, hms⟩ := hL.free (by omega)
    by_cases hx6 : x < 6
    · by_cases hus : Us s (100 + x)
      · have hT := turn_used hm hm0 hms (p := 100 + x) (by omega) (by omega) (hL.l1 (100 + x) (by omega) hus)
        have hask := ask_done (tag := (k : Int)) (now := (k : Int)) hT (by decide) (by decide) hI.a
        clear hT hm0 hms
        go_wp2_with fail
        refine hask.mono ?_
        rintro e w2 ⟨D, cp, v2, rfl, hD1, hD2, hD, hA2, hv2, ht2⟩
        have hI2 := hI.ask hb.size hA2 hv2 ht2
        have hb2 := Below.trans hb (hI.bel hb.size ht2)
        have hbd : Below w2.heap.size w2 w2.drew := (Below.refl _ _).drew
        have hI3 := hI2.later hbd
        have hb3 := hb2.trans (hbd.mono hb2.size)
        have d1 := (hD.later hbd).2 1 _ rfl |>.1
        have d2 := (hD.later hbd).2 2 _ rfl |>.1
        clear hask hI hA2 hv2 ht2 hb hD hD1 hD2 hI2 hb2 hbd
        have lk := hI3.u.look34 (wf_num (k := x) (by omega) (by omega))
        rw [hL.u1 x hx0 hus] at lk
        have HL : Hid _ := hL
        clear hL hus
        go_upto_region 12 with fail
        refine wp_region_held_drew (S := (fun X => X.cell? ⟨D, 1, none⟩ = some (.int .i64 190) ∧ (Instr.lookup 34 (.map (some U)) (.int .i64 x) false).run Tryz.prog X = .ok (.bool true) X)) (by kernel_rfl) ?_ (fun hHeld => ?_)
        · first | exact ⟨d1, lk⟩ | assumption
        refine wpAnyH_take (i := 0) (oi := ({ dst := some 59, op := Go.Op.move (Go.Operand.tmp 9), type := 36, pos := "theorems.go:164", after := #[], guard := none } : Go.Oper)) (v := .slice (some ⟨D, 0, none⟩) 1 cp) rfl (by kernel_rfl) (by kernel_rfl) (by kernel_rfl) (fun _ _ _ h => h) (Or.inl ⟨by rfl, ?_⟩) (by assumption) ?_
        · intro wx hSw
          try dsimp only at hSw
          obtain ⟨u0, u1⟩ := hSw
          go_simp
          try with_reducible rfl
        try simp only [Act.put, List.setIfInBounds_toArray, List.set_cons_zero, List.set_cons_succ]
        refine wpAnyH_take (i := 1) (oi := ({ dst := some 60, op := Go.Op.call { callee := Go.Callee.builtin Go.Builtin.len, args := #[Go.Operand.tmp 59], argTypes := #[36] }, type := 3, pos := "theorems.go:164", after := #[{ on := 0, ground := Go.Ground.data }], guard := none } : Go.Oper)) (v := .int .i64 1) rfl (by kernel_rfl) (by kernel_rfl) (by kernel_rfl) (fun _ _ _ h => h) (Or.inl ⟨by rfl, ?_⟩) (by assumption) ?_
        · intro wx hSw
          try dsimp only at hSw
          obtain ⟨u0, u1⟩ := hSw
          go_simp
          try with_reducible rfl
        try simp only [Act.put, List.setIfInBounds_toArray, List.set_cons_zero, List.set_cons_succ]
        refine wpAnyH_take (i := 2) (oi := ({ dst := some 61, op := Go.Op.binOp Go.BinOp.neq 3 (Go.Operand.tmp 60) (Go.Operand.const (Go.Value.int Go.IntKind.i64 1)) 3, type := 4, pos := "theorems.go:164", after := #[{ on := 1, ground := Go.Ground.data }], guard := none } : Go.Oper)) (v := .bool false) rfl (by kernel_rfl) (by kernel_rfl) (by kernel_rfl) (fun _ _ _ h => h) (Or.inl ⟨by rfl, ?_⟩) (by assumption) ?_
        · intro wx hSw
          try dsimp only at hSw
          obtain ⟨u0, u1⟩ := hSw
          go_simp
          try with_reducible rfl
        try simp only [Act.put, List.setIfInBounds_toArray, List.set_cons_zero, List.set_cons_succ]
        refine wpAnyH_take (i := 3) (oi := ({ dst := some 62, op := Go.Op.move (Go.Operand.tmp 61), type := 4, pos := "theorems.go:164", after := #[{ on := 2, ground := Go.Ground.data }], guard := none } : Go.Oper)) (v := .bool false) rfl (by kernel_rfl) (by kernel_rfl) (by kernel_rfl) (fun _ _ _ h => h) (Or.inl ⟨by rfl, ?_⟩) (by assumption) ?_
        · intro wx hSw
          try dsimp only at hSw
          obtain ⟨u0, u1⟩ := hSw
          go_simp
          try with_reducible rfl
        try simp only [Act.put, List.setIfInBounds_toArray, List.set_cons_zero, List.set_cons_succ]
        refine wpAnyH_take (i := 4) (oi := ({ dst := some 63, op := Go.Op.move (Go.Operand.tmp 9), type := 36, pos := "theorems.go:164", after := #[{ on := 3, ground := Go.Ground.guard }], guard := some (3, false) } : Go.Oper)) (v := .slice (some ⟨D, 0, none⟩) 1 cp) rfl (by kernel_rfl) (by kernel_rfl) (by kernel_rfl) (fun _ _ _ h => h) (Or.inl ⟨by rfl, ?_⟩) (by assumption) ?_
        · intro wx hSw
          try dsimp only at hSw
          obtain ⟨u0, u1⟩ := hSw
          go_simp
          try with_reducible rfl
        try simp only [Act.put, List.setIfInBounds_toArray, List.set_cons_zero, List.set_cons_succ]
        refine wpAnyH_take (i := 5) (oi := ({ dst := some 64, op := Go.Op.indexAddr 36 (Go.Operand.tmp 63) (Go.Operand.const (Go.Value.int Go.IntKind.i64 0)), type := 0, pos := "theorems.go:164", after := #[{ on := 4, ground := Go.Ground.data }, { on := 3, ground := Go.Ground.guard }], guard := some (3, false) } : Go.Oper)) (v := .pointer (some ⟨D, 0, none⟩)) rfl (by kernel_rfl) (by kernel_rfl) (by kernel_rfl) (fun _ _ _ h => h) (Or.inl ⟨by rfl, ?_⟩) (by assumption) ?_
        · intro wx hSw
          try dsimp only at hSw
          obtain ⟨u0, u1⟩ := hSw
          go_simp
          try with_reducible rfl
        try simp only [Act.put, List.setIfInBounds_toArray, List.set_cons_zero, List.set_cons_succ]
        refine wpAnyH_take (i := 6) (oi := ({ dst := some 65, op := Go.Op.fieldAddr 43 (Go.Operand.tmp 64) 1, type := 0, pos := "theorems.go:164", after := #[{ on := 5, ground := Go.Ground.data }, { on := 3, ground := Go.Ground.guard }], guard := some (3, false) } : Go.Oper)) (v := .pointer (some ⟨D, 1, none⟩)) rfl (by kernel_rfl) (by kernel_rfl) (by kernel_rfl) (fun _ _ _ h => h) (Or.inl ⟨by rfl, ?_⟩) (by assumption) ?_
        · intro wx hSw
          try dsimp only at hSw
          obtain ⟨u0, u1⟩ := hSw
          go_simp
          try with_reducible rfl
        try simp only [Act.put, List.setIfInBounds_toArray, List.set_cons_zero, List.set_cons_succ]
        refine wpAnyH_take (i := 7) (oi := ({ dst := some 66, op := Go.Op.load 24 (Go.Operand.tmp 65), type := 24, pos := "theorems.go:164", after := #[{ on := 6, ground := Go.Ground.data }, { on := 3, ground := Go.Ground.guard }], guard := some (3, false) } : Go.Oper)) (v := .int .i64 190) rfl (by kernel_rfl) (by kernel_rfl) (by kernel_rfl) (fun _ _ _ h => h) (Or.inl ⟨by rfl, ?_⟩) (by assumption) ?_
        · intro wx hSw
          try dsimp only at hSw
          obtain ⟨u0, u1⟩ := hSw
          go_simp
          try with_reducible rfl
        try simp only [Act.put, List.setIfInBounds_toArray, List.set_cons_zero, List.set_cons_succ]
        refine wpAnyH_take (i := 8) (oi := ({ dst := some 67, op := Go.Op.binOp Go.BinOp.eql 24 (Go.Operand.tmp 66) (Go.Operand.const (Go.Value.int Go.IntKind.i64 0)) 24, type := 4, pos := "theorems.go:164", after := #[{ on := 7, ground := Go.Ground.data }, { on := 3, ground := Go.Ground.guard }], guard := some (3, false) } : Go.Oper)) (v := .bool false) rfl (by kernel_rfl) (by kernel_rfl) (by kernel_rfl) (fun _ _ _ h => h) (Or.inl ⟨by rfl, ?_⟩) (by assumption) ?_
        · intro wx hSw
          try dsimp only at hSw
          obtain ⟨u0, u1⟩ := hSw
          go_simp
          try with_reducible rfl
        try simp only [Act.put, List.setIfInBounds_toArray, List.set_cons_zero, List.set_cons_succ]
        refine wpAnyH_take (i := 9) (oi := ({ dst := some 68, op := Go.Op.move (Go.Operand.tmp 6), type := 34, pos := "theorems.go:164", after := #[{ on := 3, ground := Go.Ground.guard }], guard := some (3, false) } : Go.Oper)) (v := .map (some U)) rfl (by kernel_rfl) (by kernel_rfl) (by kernel_rfl) (fun _ _ _ h => h) (Or.inl ⟨by rfl, ?_⟩) (by assumption) ?_
        · intro wx hSw
          try dsimp only at hSw
          obtain ⟨u0, u1⟩ := hSw
          go_simp
          try with_reducible rfl
        try simp only [Act.put, List.setIfInBounds_toArray, List.set_cons_zero, List.set_cons_succ]
        refine wpAnyH_take (i := 10) (oi := ({ dst := some 69, op := Go.Op.move (Go.Operand.tmp 8), type := 3, pos := "theorems.go:164", after := #[{ on := 3, ground := Go.Ground.guard }], guard := some (3, false) } : Go.Oper)) (v := .int .i64 x) rfl (by kernel_rfl) (by kernel_rfl) (by kernel_rfl) (fun _ _ _ h => h) (Or.inl ⟨by rfl, ?_⟩) (by assumption) ?_
        · intro wx hSw
          try dsimp only at hSw
          obtain ⟨u0, u1⟩ := hSw
          go_simp
          try with_reducible rfl
        try simp only [Act.put, List.setIfInBounds_toArray, List.set_cons_zero, List.set_cons_succ]
        refine wpAnyH_take (i := 11) (oi := ({ dst := some 70, op := Go.Op.lookup 34 (Go.Operand.tmp 68) (Go.Operand.tmp 69) false, type := 4, pos := "theorems.go:164", after := #[{ on := 9, ground := Go.Ground.data }, { on := 10, ground := Go.Ground.data }, { on := 3, ground := Go.Ground.guard }], guard := some (3, false) } : Go.Oper)) (v := .bool true) rfl (by kernel_rfl) (by kernel_rfl) (by kernel_rfl) (fun _ _ _ h => h) (Or.inl ⟨by rfl, ?_⟩) (by assumption) ?_
        · intro wx hSw
          try dsimp only at hSw
          obtain ⟨u0, u1⟩ := hSw
          go_simp
          try with_reducible rfl
        try simp only [Act.put, List.setIfInBounds_toArray, List.set_cons_zero, List.set_cons_succ]
        refine wpAnyH_take (i := 12) (oi := ({ dst := some 71, op := Go.Op.unOp Go.UnOp.not 4 (Go.Operand.tmp 70), type := 4, pos := "theorems.go:164", after := #[{ on := 11, ground := Go.Ground.data }, { on := 3, ground := Go.Ground.guard }], guard := some (3, false) } : Go.Oper)) (v := .bool false) rfl (by kernel_rfl) (by kernel_rfl) (by kernel_rfl) (fun _ _ _ h => h) (Or.inl ⟨by rfl, ?_⟩) (by assumption) ?_
        · intro wx hSw
          try dsimp only at hSw
          obtain ⟨u0, u1⟩ := hSw
          go_simp
          try with_reducible rfl
        try simp only [Act.put, List.setIfInBounds_toArray, List.set_cons_zero, List.set_cons_succ]
        refine wpAnyH_take (i := 13) (oi := ({ dst := some 72, op := Go.Op.binOp Go.BinOp.neq 4 (Go.Operand.tmp 67) (Go.Operand.tmp 71) 4, type := 4, pos := "theorems.go:164", after := #[{ on := 8, ground := Go.Ground.data }, { on := 12, ground := Go.Ground.data }, { on := 3, ground := Go.Ground.guard }], guard := some (3, false) } : Go.Oper)) (v := .bool false) rfl (by kernel_rfl) (by kernel_rfl) (by kernel_rfl) (fun _ _ _ h => h) (Or.inl ⟨by rfl, ?_⟩) (by assumption) ?_
        · intro wx hSw
          try dsimp only at hSw
          obtain ⟨u0, u1⟩ := hSw
          go_simp
          try with_reducible rfl
        try simp only [Act.put, List.setIfInBounds_toArray, List.set_cons_zero, List.set_cons_succ]
        refine wpAnyH_take (i := 14) (oi := ({ dst := some 73, op := Go.Op.pick (Go.Operand.tmp 62) (Go.Operand.const (Go.Value.bool true)) (Go.Operand.tmp 72), type := 4, pos := "theorems.go:164", after := #[{ on := 3, ground := Go.Ground.data }, { on := 13, ground := Go.Ground.data }], guard := none } : Go.Oper)) (v := .bool false) rfl (by kernel_rfl) (by kernel_rfl) (by kernel_rfl) (fun _ _ _ h => h) (Or.inl ⟨by rfl, ?_⟩) (by assumption) ?_
        · intro wx hSw
          try dsimp only at hSw
          obtain ⟨u0, u1⟩ := hSw
          go_simp
          try with_reducible rfl
        try simp only [Act.put, List.setIfInBounds_toArray, List.set_cons_zero, List.set_cons_succ]
        refine wpAnyH_take (i := 15) (oi := ({ dst := some 74, op := Go.Op.move (Go.Operand.tmp 73), type := 4, pos := "theorems.go:164", after := #[{ on := 14, ground := Go.Ground.data }, { on := 3, ground := Go.Ground.chain }], guard := none } : Go.Oper)) (v := .bool false) rfl (by kernel_rfl) (by kernel_rfl) (by kernel_rfl) (fun _ _ _ h => h) (Or.inl ⟨by rfl, ?_⟩) (by assumption) ?_
        · intro wx hSw
          try dsimp only at hSw
          obtain ⟨u0, u1⟩ := hSw
          go_simp
          try with_reducible rfl
        try simp only [Act.put, List.setIfInBounds_toArray, List.set_cons_zero, List.set_cons_succ]
        refine wpAnyH_take (i := 16) (oi := ({ dst := some 75, op := Go.Op.move (Go.Operand.tmp 9), type := 36, pos := "theorems.go:164", after := #[{ on := 15, ground := Go.Ground.guard }], guard := some (15, false) } : Go.Oper)) (v := .slice (some ⟨D, 0, none⟩) 1 cp) rfl (by kernel_rfl) (by kernel_rfl) (by kernel_rfl) (fun _ _ _ h => h) (Or.inl ⟨by rfl, ?_⟩) (by assumption) ?_
        · intro wx hSw
          try dsimp only at hSw
          obtain ⟨u0, u1⟩ := hSw
          go_simp
          try with_reducible rfl
        try simp only [Act.put, List.setIfInBounds_toArray, List.set_cons_zero, List.set_cons_succ]
        refine wpAnyH_take (i := 17) (oi := ({ dst := some 76, op := Go.Op.indexAddr 36 (Go.Operand.tmp 75) (Go.Operand.const (Go.Value.int Go.IntKind.i64 0)), type := 0, pos := "theorems.go:164", after := #[{ on := 16, ground := Go.Ground.data }, { on := 15, ground := Go.Ground.guard }], guard := some (15, false) } : Go.Oper)) (v := .pointer (some ⟨D, 0, none⟩)) rfl (by kernel_rfl) (by kernel_rfl) (by kernel_rfl) (fun _ _ _ h => h) (Or.inl ⟨by rfl, ?_⟩) (by assumption) ?_
        · intro wx hSw
          try dsimp only at hSw
          obtain ⟨u0, u1⟩ := hSw
          go_simp
          try with_reducible rfl
        try simp only [Act.put, List.setIfInBounds_toArray, List.set_cons_zero, List.set_cons_succ]
        refine wpAnyH_take (i := 18) (oi := ({ dst := some 77, op := Go.Op.fieldAddr 43 (Go.Operand.tmp 76) 1, type := 0, pos := "theorems.go:164", after := #[{ on := 17, ground := Go.Ground.data }, { on := 15, ground := Go.Ground.guard }], guard := some (15, false) } : Go.Oper)) (v := .pointer (some ⟨D, 1, none⟩)) rfl (by kernel_rfl) (by kernel_rfl) (by kernel_rfl) (fun _ _ _ h => h) (Or.inl ⟨by rfl, ?_⟩) (by assumption) ?_
        · intro wx hSw
          try dsimp only at hSw
          obtain ⟨u0, u1⟩ := hSw
          go_simp
          try with_reducible rfl
        try simp only [Act.put, List.setIfInBounds_toArray, List.set_cons_zero, List.set_cons_succ]
        refine wpAnyH_take (i := 19) (oi := ({ dst := some 78, op := Go.Op.load 24 (Go.Operand.tmp 77), type := 24, pos := "theorems.go:164", after := #[{ on := 18, ground := Go.Ground.data }, { on := 15, ground := Go.Ground.guard }], guard := some (15, false) } : Go.Oper)) (v := .int .i64 190) rfl (by kernel_rfl) (by kernel_rfl) (by kernel_rfl) (fun _ _ _ h => h) (Or.inl ⟨by rfl, ?_⟩) (by assumption) ?_
        · intro wx hSw
          try dsimp only at hSw
          obtain ⟨u0, u1⟩ := hSw
          go_simp
          try with_reducible rfl
        try simp only [Act.put, List.setIfInBounds_toArray, List.set_cons_zero, List.set_cons_succ]
        refine wpAnyH_take (i := 20) (oi := ({ dst := some 79, op := Go.Op.binOp Go.BinOp.neq 24 (Go.Operand.tmp 78) (Go.Operand.const (Go.Value.int Go.IntKind.i64 0)) 24, type := 4, pos := "theorems.go:164", after := #[{ on := 19, ground := Go.Ground.data }, { on := 15, ground := Go.Ground.guard }], guard := some (15, false) } : Go.Oper)) (v := .bool true) rfl (by kernel_rfl) (by kernel_rfl) (by kernel_rfl) (fun _ _ _ h => h) (Or.inl ⟨by rfl, ?_⟩) (by assumption) ?_
        · intro wx hSw
          try dsimp only at hSw
          obtain ⟨u0, u1⟩ := hSw
          go_simp
          try with_reducible rfl
        try simp only [Act.put, List.setIfInBounds_toArray, List.set_cons_zero, List.set_cons_succ]
        refine wpAnyH_take (i := 21) (oi := ({ dst := some 80, op := Go.Op.move (Go.Operand.tmp 79), type := 4, pos := "theorems.go:164", after := #[{ on := 20, ground := Go.Ground.data }, { on := 15, ground := Go.Ground.chain }, { on := 15, ground := Go.Ground.guard }], guard := some (15, false) } : Go.Oper)) (v := .bool true) rfl (by kernel_rfl) (by kernel_rfl) (by kernel_rfl) (fun _ _ _ h => h) (Or.inl ⟨by rfl, ?_⟩) (by assumption) ?_
        · intro wx hSw
          try dsimp only at hSw
          obtain ⟨u0, u1⟩ := hSw
          go_simp
          try with_reducible rfl
        try simp only [Act.put, List.setIfInBounds_toArray, List.set_cons_zero, List.set_cons_succ]
        refine wpAnyH_take (i := 22) (oi := ({ dst := some 81, op := Go.Op.move (Go.Operand.tmp 9), type := 36, pos := "theorems.go:164", after := #[{ on := 21, ground := Go.Ground.guard }], guard := some (21, true) } : Go.Oper)) (v := .slice (some ⟨D, 0, none⟩) 1 cp) rfl (by kernel_rfl) (by kernel_rfl) (by kernel_rfl) (fun _ _ _ h => h) (Or.inl ⟨by rfl, ?_⟩) (by assumption) ?_
        · intro wx hSw
          try dsimp only at hSw
          obtain ⟨u0, u1⟩ := hSw
          go_simp
          try with_reducible rfl
        try simp only [Act.put, List.setIfInBounds_toArray, List.set_cons_zero, List.set_cons_succ]
        refine wpAnyH_take (i := 23) (oi := ({ dst := some 82, op := Go.Op.indexAddr 36 (Go.Operand.tmp 81) (Go.Operand.const (Go.Value.int Go.IntKind.i64 0)), type := 0, pos := "theorems.go:164", after := #[{ on := 22, ground := Go.Ground.data }, { on := 21, ground := Go.Ground.guard }], guard := some (21, true) } : Go.Oper)) (v := .pointer (some ⟨D, 0, none⟩)) rfl (by kernel_rfl) (by kernel_rfl) (by kernel_rfl) (fun _ _ _ h => h) (Or.inl ⟨by rfl, ?_⟩) (by assumption) ?_
        · intro wx hSw
          try dsimp only at hSw
          obtain ⟨u0, u1⟩ := hSw
          go_simp
          try with_reducible rfl
        try simp only [Act.put, List.setIfInBounds_toArray, List.set_cons_zero, List.set_cons_succ]
        refine wpAnyH_take (i := 24) (oi := ({ dst := some 83, op := Go.Op.fieldAddr 43 (Go.Operand.tmp 82) 1, type := 0, pos := "theorems.go:164", after := #[{ on := 23, ground := Go.Ground.data }, { on := 21, ground := Go.Ground.guard }], guard := some (21, true) } : Go.Oper)) (v := .pointer (some ⟨D, 1, none⟩)) rfl (by kernel_rfl) (by kernel_rfl) (by kernel_rfl) (fun _ _ _ h => h) (Or.inl ⟨by rfl, ?_⟩) (by assumption) ?_
        · intro wx hSw
          try dsimp only at hSw
          obtain ⟨u0, u1⟩ := hSw
          go_simp
          try with_reducible rfl
        try simp only [Act.put, List.setIfInBounds_toArray, List.set_cons_zero, List.set_cons_succ]
        refine wpAnyH_take (i := 25) (oi := ({ dst := some 84, op := Go.Op.load 24 (Go.Operand.tmp 83), type := 24, pos := "theorems.go:164", after := #[{ on := 24, ground := Go.Ground.data }, { on := 21, ground := Go.Ground.guard }], guard := some (21, true) } : Go.Oper)) (v := .int .i64 190) rfl (by kernel_rfl) (by kernel_rfl) (by kernel_rfl) (fun _ _ _ h => h) (Or.inl ⟨by rfl, ?_⟩) (by assumption) ?_
        · intro wx hSw
          try dsimp only at hSw
          obtain ⟨u0, u1⟩ := hSw
          go_simp
          try with_reducible rfl
        try simp only [Act.put, List.setIfInBounds_toArray, List.set_cons_zero, List.set_cons_succ]
        refine wpAnyH_take (i := 26) (oi := ({ dst := some 85, op := Go.Op.binOp Go.BinOp.neq 24 (Go.Operand.tmp 84) (Go.Operand.const (Go.Value.int Go.IntKind.i64 190)) 24, type := 4, pos := "theorems.go:164", after := #[{ on := 25, ground := Go.Ground.data }, { on := 21, ground := Go.Ground.guard }], guard := some (21, true) } : Go.Oper)) (v := .bool false) rfl (by kernel_rfl) (by kernel_rfl) (by kernel_rfl) (fun _ _ _ h => h) (Or.inl ⟨by rfl, ?_⟩) (by assumption) ?_
        · intro wx hSw
          try dsimp only at hSw
          obtain ⟨u0, u1⟩ := hSw
          go_simp
          try with_reducible rfl
        try simp only [Act.put, List.setIfInBounds_toArray, List.set_cons_zero, List.set_cons_succ]
        refine wpAnyH_take (i := 27) (oi := ({ dst := some 86, op := Go.Op.pick (Go.Operand.tmp 80) (Go.Operand.tmp 85) (Go.Operand.const (Go.Value.bool false)), type := 4, pos := "theorems.go:164", after := #[{ on := 21, ground := Go.Ground.data }, { on := 26, ground := Go.Ground.data }, { on := 15, ground := Go.Ground.guard }], guard := some (15, false) } : Go.Oper)) (v := .bool false) rfl (by kernel_rfl) (by kernel_rfl) (by kernel_rfl) (fun _ _ _ h => h) (Or.inl ⟨by rfl, ?_⟩) (by assumption) ?_
        · intro wx hSw
          try dsimp only at hSw
          obtain ⟨u0, u1⟩ := hSw
          go_simp
          try with_reducible rfl
        try simp only [Act.put, List.setIfInBounds_toArray, List.set_cons_zero, List.set_cons_succ]
        refine wpAnyH_take (i := 28) (oi := ({ dst := some 87, op := Go.Op.pick (Go.Operand.tmp 74) (Go.Operand.const (Go.Value.bool true)) (Go.Operand.tmp 86), type := 4, pos := "theorems.go:164", after := #[{ on := 15, ground := Go.Ground.data }, { on := 27, ground := Go.Ground.data }], guard := none } : Go.Oper)) (v := .bool false) rfl (by kernel_rfl) (by kernel_rfl) (by kernel_rfl) (fun _ _ _ h => h) (Or.inl ⟨by rfl, ?_⟩) (by assumption) ?_
        · intro wx hSw
          try dsimp only at hSw
          obtain ⟨u0, u1⟩ := hSw
          go_simp
          try with_reducible rfl
        try simp only [Act.put, List.setIfInBounds_toArray, List.set_cons_zero, List.set_cons_succ]
        refine wpAnyH_done (by kernel_rfl) ?_ _
        clear hHeld d1 d2
        generalize w2.drew = w3 at *
        go_wp2
        go_roundw
        case rel => exact ⟨k + 1, s, v2, l, lp, lu, by omega, by omega, by go_num, hI3, HL.out.same, hb3⟩
        case measure => simp [intOf]; omega
      · have HRL : Hid (VRise l) := hI.a.sk.t.vm.2
        have HM0 : Hid (s m = 0) := hm0
        have HMS : Hid (∀ i, i < m → s i ≠ 0) := hms
        have hT := turn_listen hm hm0 hms (p := 100 + x) (by omega) (by omega) (hL.l0 (100 + x) (by omega) hus) (by have := hL.nl; omega)
        have hask := ask_done (tag := (k : Int)) (now := (k : Int)) hT (by decide) (by decide) hI.a
        clear hT hm0 hms
        go_wp2_with fail
        refine hask.mono ?_
        rintro e w2 ⟨D, cp, v2, rfl, hD1, hD2, hD, hA2, hv2, ht2⟩
        have hI2 := hI.ask hb.size hA2 hv2 ht2
        have hb2 := Below.trans hb (hI.bel hb.size ht2)
        have hbd : Below w2.heap.size w2 w2.drew := (Below.refl _ _).drew
        have hI3 := hI2.later hbd
        have hb3 := hb2.trans (hbd.mono hb2.size)
        have d1 := (hD.later hbd).2 1 _ rfl |>.1
        have d2 := (hD.later hbd).2 2 _ rfl |>.1
        clear hask hI hA2 hv2 ht2 hb hD hD1 hD2 hI2 hb2 hbd
        have lk := hI3.u.look34 (wf_num (k := x) (by omega) (by omega))
        rw [hL.u0 x hx0 hus] at lk
        have HL : Hid _ := hL
        have HUS : Hid (¬ Us s (100 + x)) := hus
        clear hL hus
        go_upto_region 12 with fail
        refine wp_region_held_drew (S := (fun X => X.cell? ⟨D, 1, none⟩ = some (.int .i64 0) ∧ (Instr.lookup 34 (.map (some U)) (.int .i64 x) false).run Tryz.prog X = .ok (.bool false) X)) (by kernel_rfl) ?_ (fun hHeld => ?_)
        · first | exact ⟨d1, lk⟩ | assumption
        refine wpAnyH_take (i := 0) (oi := ({ dst := some 59, op := Go.Op.move (Go.Operand.tmp 9), type := 36, pos := "theorems.go:164", after := #[], guard := none } : Go.Oper)) (v := .slice (some ⟨D, 0, none⟩) 1 cp) rfl (by kernel_rfl) (by kernel_rfl) (by kernel_rfl) (fun _ _ _ h => h) (Or.inl ⟨by rfl, ?_⟩) (by assumption) ?_
        · intro wx hSw
          try dsimp only at hSw
          obtain ⟨u0, u1⟩ := hSw
          go_simp
          try with_reducible rfl
        try simp only [Act.put, List.setIfInBounds_toArray, List.set_cons_zero, List.set_cons_succ]
        refine wpAnyH_take (i := 1) (oi := ({ dst := some 60, op := Go.Op.call { callee := Go.Callee.builtin Go.Builtin.len, args := #[Go.Operand.tmp 59], argTypes := #[36] }, type := 3, pos := "theorems.go:164", after := #[{ on := 0, ground := Go.Ground.data }], guard := none } : Go.Oper)) (v := .int .i64 1) rfl (by kernel_rfl) (by kernel_rfl) (by kernel_rfl) (fun _ _ _ h => h) (Or.inl ⟨by rfl, ?_⟩) (by assumption) ?_
        · intro wx hSw
          try dsimp only at hSw
          obtain ⟨u0, u1⟩ := hSw
          go_simp
          try with_reducible rfl
        try simp only [Act.put, List.setIfInBounds_toArray, List.set_cons_zero, List.set_cons_succ]
        refine wpAnyH_take (i := 2) (oi := ({ dst := some 61, op := Go.Op.binOp Go.BinOp.neq 3 (Go.Operand.tmp 60) (Go.Operand.const (Go.Value.int Go.IntKind.i64 1)) 3, type := 4, pos := "theorems.go:164", after := #[{ on := 1, ground := Go.Ground.data }], guard := none } : Go.Oper)) (v := .bool false) rfl (by kernel_rfl) (by kernel_rfl) (by kernel_rfl) (fun _ _ _ h => h) (Or.inl ⟨by rfl, ?_⟩) (by assumption) ?_
        · intro wx hSw
          try dsimp only at hSw
          obtain ⟨u0, u1⟩ := hSw
          go_simp
          try with_reducible rfl
        try simp only [Act.put, List.setIfInBounds_toArray, List.set_cons_zero, List.set_cons_succ]
        refine wpAnyH_take (i := 3) (oi := ({ dst := some 62, op := Go.Op.move (Go.Operand.tmp 61), type := 4, pos := "theorems.go:164", after := #[{ on := 2, ground := Go.Ground.data }], guard := none } : Go.Oper)) (v := .bool false) rfl (by kernel_rfl) (by kernel_rfl) (by kernel_rfl) (fun _ _ _ h => h) (Or.inl ⟨by rfl, ?_⟩) (by assumption) ?_
        · intro wx hSw
          try dsimp only at hSw
          obtain ⟨u0, u1⟩ := hSw
          go_simp
          try with_reducible rfl
        try simp only [Act.put, List.setIfInBounds_toArray, List.set_cons_zero, List.set_cons_succ]
        refine wpAnyH_take (i := 4) (oi := ({ dst := some 63, op := Go.Op.move (Go.Operand.tmp 9), type := 36, pos := "theorems.go:164", after := #[{ on := 3, ground := Go.Ground.guard }], guard := some (3, false) } : Go.Oper)) (v := .slice (some ⟨D, 0, none⟩) 1 cp) rfl (by kernel_rfl) (by kernel_rfl) (by kernel_rfl) (fun _ _ _ h => h) (Or.inl ⟨by rfl, ?_⟩) (by assumption) ?_
        · intro wx hSw
          try dsimp only at hSw
          obtain ⟨u0, u1⟩ := hSw
          go_simp
          try with_reducible rfl
        try simp only [Act.put, List.setIfInBounds_toArray, List.set_cons_zero, List.set_cons_succ]
        refine wpAnyH_take (i := 5) (oi := ({ dst := some 64, op := Go.Op.indexAddr 36 (Go.Operand.tmp 63) (Go.Operand.const (Go.Value.int Go.IntKind.i64 0)), type := 0, pos := "theorems.go:164", after := #[{ on := 4, ground := Go.Ground.data }, { on := 3, ground := Go.Ground.guard }], guard := some (3, false) } : Go.Oper)) (v := .pointer (some ⟨D, 0, none⟩)) rfl (by kernel_rfl) (by kernel_rfl) (by kernel_rfl) (fun _ _ _ h => h) (Or.inl ⟨by rfl, ?_⟩) (by assumption) ?_
        · intro wx hSw
          try dsimp only at hSw
          obtain ⟨u0, u1⟩ := hSw
          go_simp
          try with_reducible rfl
        try simp only [Act.put, List.setIfInBounds_toArray, List.set_cons_zero, List.set_cons_succ]
        refine wpAnyH_take (i := 6) (oi := ({ dst := some 65, op := Go.Op.fieldAddr 43 (Go.Operand.tmp 64) 1, type := 0, pos := "theorems.go:164", after := #[{ on := 5, ground := Go.Ground.data }, { on := 3, ground := Go.Ground.guard }], guard := some (3, false) } : Go.Oper)) (v := .pointer (some ⟨D, 1, none⟩)) rfl (by kernel_rfl) (by kernel_rfl) (by kernel_rfl) (fun _ _ _ h => h) (Or.inl ⟨by rfl, ?_⟩) (by assumption) ?_
        · intro wx hSw
          try dsimp only at hSw
          obtain ⟨u0, u1⟩ := hSw
          go_simp
          try with_reducible rfl
        try simp only [Act.put, List.setIfInBounds_toArray, List.set_cons_zero, List.set_cons_succ]
        refine wpAnyH_take (i := 7) (oi := ({ dst := some 66, op := Go.Op.load 24 (Go.Operand.tmp 65), type := 24, pos := "theorems.go:164", after := #[{ on := 6, ground := Go.Ground.data }, { on := 3, ground := Go.Ground.guard }], guard := some (3, false) } : Go.Oper)) (v := .int .i64 0) rfl (by kernel_rfl) (by kernel_rfl) (by kernel_rfl) (fun _ _ _ h => h) (Or.inl ⟨by rfl, ?_⟩) (by assumption) ?_
        · intro wx hSw
          try dsimp only at hSw
          obtain ⟨u0, u1⟩ := hSw
          go_simp
          try with_reducible rfl
        try simp only [Act.put, List.setIfInBounds_toArray, List.set_cons_zero, List.set_cons_succ]
        refine wpAnyH_take (i := 8) (oi := ({ dst := some 67, op := Go.Op.binOp Go.BinOp.eql 24 (Go.Operand.tmp 66) (Go.Operand.const (Go.Value.int Go.IntKind.i64 0)) 24, type := 4, pos := "theorems.go:164", after := #[{ on := 7, ground := Go.Ground.data }, { on := 3, ground := Go.Ground.guard }], guard := some (3, false) } : Go.Oper)) (v := .bool true) rfl (by kernel_rfl) (by kernel_rfl) (by kernel_rfl) (fun _ _ _ h => h) (Or.inl ⟨by rfl, ?_⟩) (by assumption) ?_
        · intro wx hSw
          try dsimp only at hSw
          obtain ⟨u0, u1⟩ := hSw
          go_simp
          try with_reducible rfl
        try simp only [Act.put, List.setIfInBounds_toArray, List.set_cons_zero, List.set_cons_succ]
        refine wpAnyH_take (i := 9) (oi := ({ dst := some 68, op := Go.Op.move (Go.Operand.tmp 6), type := 34, pos := "theorems.go:164", after := #[{ on := 3, ground := Go.Ground.guard }], guard := some (3, false) } : Go.Oper)) (v := .map (some U)) rfl (by kernel_rfl) (by kernel_rfl) (by kernel_rfl) (fun _ _ _ h => h) (Or.inl ⟨by rfl, ?_⟩) (by assumption) ?_
        · intro wx hSw
          try dsimp only at hSw
          obtain ⟨u0, u1⟩ := hSw
          go_simp
          try with_reducible rfl
        try simp only [Act.put, List.setIfInBounds_toArray, List.set_cons_zero, List.set_cons_succ]
        refine wpAnyH_take (i := 10) (oi := ({ dst := some 69, op := Go.Op.move (Go.Operand.tmp 8), type := 3, pos := "theorems.go:164", after := #[{ on := 3, ground := Go.Ground.guard }], guard := some (3, false) } : Go.Oper)) (v := .int .i64 x) rfl (by kernel_rfl) (by kernel_rfl) (by kernel_rfl) (fun _ _ _ h => h) (Or.inl ⟨by rfl, ?_⟩) (by assumption) ?_
        · intro wx hSw
          try dsimp only at hSw
          obtain ⟨u0, u1⟩ := hSw
          go_simp
          try with_reducible rfl
        try simp only [Act.put, List.setIfInBounds_toArray, List.set_cons_zero, List.set_cons_succ]
        refine wpAnyH_take (i := 11) (oi := ({ dst := some 70, op := Go.Op.lookup 34 (Go.Operand.tmp 68) (Go.Operand.tmp 69) false, type := 4, pos := "theorems.go:164", after := #[{ on := 9, ground := Go.Ground.data }, { on := 10, ground := Go.Ground.data }, { on := 3, ground := Go.Ground.guard }], guard := some (3, false) } : Go.Oper)) (v := .bool false) rfl (by kernel_rfl) (by kernel_rfl) (by kernel_rfl) (fun _ _ _ h => h) (Or.inl ⟨by rfl, ?_⟩) (by assumption) ?_
        · intro wx hSw
          try dsimp only at hSw
          obtain ⟨u0, u1⟩ := hSw
          go_simp
          try with_reducible rfl
        try simp only [Act.put, List.setIfInBounds_toArray, List.set_cons_zero, List.set_cons_succ]
        refine wpAnyH_take (i := 12) (oi := ({ dst := some 71, op := Go.Op.unOp Go.UnOp.not 4 (Go.Operand.tmp 70), type := 4, pos := "theorems.go:164", after := #[{ on := 11, ground := Go.Ground.data }, { on := 3, ground := Go.Ground.guard }], guard := some (3, false) } : Go.Oper)) (v := .bool true) rfl (by kernel_rfl) (by kernel_rfl) (by kernel_rfl) (fun _ _ _ h => h) (Or.inl ⟨by rfl, ?_⟩) (by assumption) ?_
        · intro wx hSw
          try dsimp only at hSw
          obtain ⟨u0, u1⟩ := hSw
          go_simp
          try with_reducible rfl
        try simp only [Act.put, List.setIfInBounds_toArray, List.set_cons_zero, List.set_cons_succ]
        refine wpAnyH_take (i := 13) (oi := ({ dst := some 72, op := Go.Op.binOp Go.BinOp.neq 4 (Go.Operand.tmp 67) (Go.Operand.tmp 71) 4, type := 4, pos := "theorems.go:164", after := #[{ on := 8, ground := Go.Ground.data }, { on := 12, ground := Go.Ground.data }, { on := 3, ground := Go.Ground.guard }], guard := some (3, false) } : Go.Oper)) (v := .bool false) rfl (by kernel_rfl) (by kernel_rfl) (by kernel_rfl) (fun _ _ _ h => h) (Or.inl ⟨by rfl, ?_⟩) (by assumption) ?_
        · intro wx hSw
          try dsimp only at hSw
          obtain ⟨u0, u1⟩ := hSw
          go_simp
          try with_reducible rfl
        try simp only [Act.put, List.setIfInBounds_toArray, List.set_cons_zero, List.set_cons_succ]
        refine wpAnyH_take (i := 14) (oi := ({ dst := some 73, op := Go.Op.pick (Go.Operand.tmp 62) (Go.Operand.const (Go.Value.bool true)) (Go.Operand.tmp 72), type := 4, pos := "theorems.go:164", after := #[{ on := 3, ground := Go.Ground.data }, { on := 13, ground := Go.Ground.data }], guard := none } : Go.Oper)) (v := .bool false) rfl (by kernel_rfl) (by kernel_rfl) (by kernel_rfl) (fun _ _ _ h => h) (Or.inl ⟨by rfl, ?_⟩) (by assumption) ?_
        · intro wx hSw
          try dsimp only at hSw
          obtain ⟨u0, u1⟩ := hSw
          go_simp
          try with_reducible rfl
        try simp only [Act.put, List.setIfInBounds_toArray, List.set_cons_zero, List.set_cons_succ]
        refine wpAnyH_take (i := 15) (oi := ({ dst := some 74, op := Go.Op.move (Go.Operand.tmp 73), type := 4, pos := "theorems.go:164", after := #[{ on := 14, ground := Go.Ground.data }, { on := 3, ground := Go.Ground.chain }], guard := none } : Go.Oper)) (v := .bool false) rfl (by kernel_rfl) (by kernel_rfl) (by kernel_rfl) (fun _ _ _ h => h) (Or.inl ⟨by rfl, ?_⟩) (by assumption) ?_
        · intro wx hSw
          try dsimp only at hSw
          obtain ⟨u0, u1⟩ := hSw
          go_simp
          try with_reducible rfl
        try simp only [Act.put, List.setIfInBounds_toArray, List.set_cons_zero, List.set_cons_succ]
        refine wpAnyH_take (i := 16) (oi := ({ dst := some 75, op := Go.Op.move (Go.Operand.tmp 9), type := 36, pos := "theorems.go:164", after := #[{ on := 15, ground := Go.Ground.guard }], guard := some (15, false) } : Go.Oper)) (v := .slice (some ⟨D, 0, none⟩) 1 cp) rfl (by kernel_rfl) (by kernel_rfl) (by kernel_rfl) (fun _ _ _ h => h) (Or.inl ⟨by rfl, ?_⟩) (by assumption) ?_
        · intro wx hSw
          try dsimp only at hSw
          obtain ⟨u0, u1⟩ := hSw
          go_simp
          try with_reducible rfl
        try simp only [Act.put, List.setIfInBounds_toArray, List.set_cons_zero, List.set_cons_succ]
        refine wpAnyH_take (i := 17) (oi := ({ dst := some 76, op := Go.Op.indexAddr 36 (Go.Operand.tmp 75) (Go.Operand.const (Go.Value.int Go.IntKind.i64 0)), type := 0, pos := "theorems.go:164", after := #[{ on := 16, ground := Go.Ground.data }, { on := 15, ground := Go.Ground.guard }], guard := some (15, false) } : Go.Oper)) (v := .pointer (some ⟨D, 0, none⟩)) rfl (by kernel_rfl) (by kernel_rfl) (by kernel_rfl) (fun _ _ _ h => h) (Or.inl ⟨by rfl, ?_⟩) (by assumption) ?_
        · intro wx hSw
          try dsimp only at hSw
          obtain ⟨u0, u1⟩ := hSw
          go_simp
          try with_reducible rfl
        try simp only [Act.put, List.setIfInBounds_toArray, List.set_cons_zero, List.set_cons_succ]
        refine wpAnyH_take (i := 18) (oi := ({ dst := some 77, op := Go.Op.fieldAddr 43 (Go.Operand.tmp 76) 1, type := 0, pos := "theorems.go:164", after := #[{ on := 17, ground := Go.Ground.data }, { on := 15, ground := Go.Ground.guard }], guard := some (15, false) } : Go.Oper)) (v := .pointer (some ⟨D, 1, none⟩)) rfl (by kernel_rfl) (by kernel_rfl) (by kernel_rfl) (fun _ _ _ h => h) (Or.inl ⟨by rfl, ?_⟩) (by assumption) ?_
        · intro wx hSw
          try dsimp only at hSw
          obtain ⟨u0, u1⟩ := hSw
          go_simp
          try with_reducible rfl
        try simp only [Act.put, List.setIfInBounds_toArray, List.set_cons_zero, List.set_cons_succ]
        refine wpAnyH_take (i := 19) (oi := ({ dst := some 78, op := Go.Op.load 24 (Go.Operand.tmp 77), type := 24, pos := "theorems.go:164", after := #[{ on := 18, ground := Go.Ground.data }, { on := 15, ground := Go.Ground.guard }], guard := some (15, false) } : Go.Oper)) (v := .int .i64 0) rfl (by kernel_rfl) (by kernel_rfl) (by kernel_rfl) (fun _ _ _ h => h) (Or.inl ⟨by rfl, ?_⟩) (by assumption) ?_
        · intro wx hSw
          try dsimp only at hSw
          obtain ⟨u0, u1⟩ := hSw
          go_simp
          try with_reducible rfl
        try simp only [Act.put, List.setIfInBounds_toArray, List.set_cons_zero, List.set_cons_succ]
        refine wpAnyH_take (i := 20) (oi := ({ dst := some 79, op := Go.Op.binOp Go.BinOp.neq 24 (Go.Operand.tmp 78) (Go.Operand.const (Go.Value.int Go.IntKind.i64 0)) 24, type := 4, pos := "theorems.go:164", after := #[{ on := 19, ground := Go.Ground.data }, { on := 15, ground := Go.Ground.guard }], guard := some (15, false) } : Go.Oper)) (v := .bool false) rfl (by kernel_rfl) (by kernel_rfl) (by kernel_rfl) (fun _ _ _ h => h) (Or.inl ⟨by rfl, ?_⟩) (by assumption) ?_
        · intro wx hSw
          try dsimp only at hSw
          obtain ⟨u0, u1⟩ := hSw
          go_simp
          try with_reducible rfl
        try simp only [Act.put, List.setIfInBounds_toArray, List.set_cons_zero, List.set_cons_succ]
        refine wpAnyH_take (i := 21) (oi := ({ dst := some 80, op := Go.Op.move (Go.Operand.tmp 79), type := 4, pos := "theorems.go:164", after := #[{ on := 20, ground := Go.Ground.data }, { on := 15, ground := Go.Ground.chain }, { on := 15, ground := Go.Ground.guard }], guard := some (15, false) } : Go.Oper)) (v := .bool false) rfl (by kernel_rfl) (by kernel_rfl) (by kernel_rfl) (fun _ _ _ h => h) (Or.inl ⟨by rfl, ?_⟩) (by assumption) ?_
        · intro wx hSw
          try dsimp only at hSw
          obtain ⟨u0, u1⟩ := hSw
          go_simp
          try with_reducible rfl
        try simp only [Act.put, List.setIfInBounds_toArray, List.set_cons_zero, List.set_cons_succ]
        refine wpAnyH_take (i := 22) (oi := ({ dst := some 81, op := Go.Op.move (Go.Operand.tmp 9), type := 36, pos := "theorems.go:164", after := #[{ on := 21, ground := Go.Ground.guard }], guard := some (21, true) } : Go.Oper)) (v := undef) rfl (by kernel_rfl) (by kernel_rfl) (by kernel_rfl) (fun _ _ _ h => h) (Or.inr ⟨by rfl, rfl⟩) (by assumption) ?_
        try simp only [Act.put, List.setIfInBounds_toArray, List.set_cons_zero, List.set_cons_succ]
        refine wpAnyH_take (i := 23) (oi := ({ dst := some 82, op := Go.Op.indexAddr 36 (Go.Operand.tmp 81) (Go.Operand.const (Go.Value.int Go.IntKind.i64 0)), type := 0, pos := "theorems.go:164", after := #[{ on := 22, ground := Go.Ground.data }, { on := 21, ground := Go.Ground.guard }], guard := some (21, true) } : Go.Oper)) (v := undef) rfl (by kernel_rfl) (by kernel_rfl) (by kernel_rfl) (fun _ _ _ h => h) (Or.inr ⟨by rfl, rfl⟩) (by assumption) ?_
        try simp only [Act.put, List.setIfInBounds_toArray, List.set_cons_zero, List.set_cons_succ]
        refine wpAnyH_take (i := 24) (oi := ({ dst := some 83, op := Go.Op.fieldAddr 43 (Go.Operand.tmp 82) 1, type := 0, pos := "theorems.go:164", after := #[{ on := 23, ground := Go.Ground.data }, { on := 21, ground := Go.Ground.guard }], guard := some (21, true) } : Go.Oper)) (v := undef) rfl (by kernel_rfl) (by kernel_rfl) (by kernel_rfl) (fun _ _ _ h => h) (Or.inr ⟨by rfl, rfl⟩) (by assumption) ?_
        try simp only [Act.put, List.setIfInBounds_toArray, List.set_cons_zero, List.set_cons_succ]
        refine wpAnyH_take (i := 25) (oi := ({ dst := some 84, op := Go.Op.load 24 (Go.Operand.tmp 83), type := 24, pos := "theorems.go:164", after := #[{ on := 24, ground := Go.Ground.data }, { on := 21, ground := Go.Ground.guard }], guard := some (21, true) } : Go.Oper)) (v := undef) rfl (by kernel_rfl) (by kernel_rfl) (by kernel_rfl) (fun _ _ _ h => h) (Or.inr ⟨by rfl, rfl⟩) (by assumption) ?_
        try simp only [Act.put, List.setIfInBounds_toArray, List.set_cons_zero, List.set_cons_succ]
        refine wpAnyH_take (i := 26) (oi := ({ dst := some 85, op := Go.Op.binOp Go.BinOp.neq 24 (Go.Operand.tmp 84) (Go.Operand.const (Go.Value.int Go.IntKind.i64 190)) 24, type := 4, pos := "theorems.go:164", after := #[{ on := 25, ground := Go.Ground.data }, { on := 21, ground := Go.Ground.guard }], guard := some (21, true) } : Go.Oper)) (v := undef) rfl (by kernel_rfl) (by kernel_rfl) (by kernel_rfl) (fun _ _ _ h => h) (Or.inr ⟨by rfl, rfl⟩) (by assumption) ?_
        try simp only [Act.put, List.setIfInBounds_toArray, List.set_cons_zero, List.set_cons_succ]
        refine wpAnyH_take (i := 27) (oi := ({ dst := some 86, op := Go.Op.pick (Go.Operand.tmp 80) (Go.Operand.tmp 85) (Go.Operand.const (Go.Value.bool false)), type := 4, pos := "theorems.go:164", after := #[{ on := 21, ground := Go.Ground.data }, { on := 26, ground := Go.Ground.data }, { on := 15, ground := Go.Ground.guard }], guard := some (15, false) } : Go.Oper)) (v := .bool false) rfl (by kernel_rfl) (by kernel_rfl) (by kernel_rfl) (fun _ _ _ h => h) (Or.inl ⟨by rfl, ?_⟩) (by assumption) ?_
        · intro wx hSw
          try dsimp only at hSw
          obtain ⟨u0, u1⟩ := hSw
          go_simp
          try with_reducible rfl
        try simp only [Act.put, List.setIfInBounds_toArray, List.set_cons_zero, List.set_cons_succ]
        refine wpAnyH_take (i := 28) (oi := ({ dst := some 87, op := Go.Op.pick (Go.Operand.tmp 74) (Go.Operand.const (Go.Value.bool true)) (Go.Operand.tmp 86), type := 4, pos := "theorems.go:164", after := #[{ on := 15, ground := Go.Ground.data }, { on := 27, ground := Go.Ground.data }], guard := none } : Go.Oper)) (v := .bool false) rfl (by kernel_rfl) (by kernel_rfl) (by kernel_rfl) (fun _ _ _ h => h) (Or.inl ⟨by rfl, ?_⟩) (by assumption) ?_
        · intro wx hSw
          try dsimp only at hSw
          obtain ⟨u0, u1⟩ := hSw
          go_simp
          try with_reducible rfl
        try simp only [Act.put, List.setIfInBounds_toArray, List.set_cons_zero, List.set_cons_succ]
        refine wpAnyH_done (by kernel_rfl) ?_ _
        clear hHeld d1
        generalize w2.drew = w3 at *
        go_wp2
        clear lk
        go_loop [11] (fun q => ∃ j : Nat, j ≤ m ∧ q = .int .i64 (j : Int)) (fun q => m + 1 - (intOf q).toNat)
        case atStart => exact ⟨0, Nat.zero_le _, rfl⟩
        case round =>
          obtain ⟨j, hj, rfl⟩ := hrel
          have hj0 : (0 : Int) ≤ (j : Int) := by omega
          have hj1 : (j : Int) < 64 := by omega
          by_cases hjm : j = m
          · subst hjm
            have lkj : (Instr.lookup 33 (.map (some P)) (.int .i64 (j : Int)) false).run Tryz.prog w3 = .ok (.int .i64 0) w3 := by
              have := hI3.p.look33 (wf_num (k := (j : Int)) (by omega) (by omega))
              rw [HL.out.p j hm, if_pos HM0.out] at this
              exact this
            have hwm : (Lit.int .i64 (j : Int)).wf = true := wf_num (by omega) (by omega)
            have hwx : (Lit.int .i64 x).wf = true := wf_num (by omega) (by omega)
            have hlp : lp.length < 1000000 := by have := HL.out.np; omega
            have hlu : lu.length < 1000000 := by have := HL.out.nu; omega
            have hPm := hI3.p
            go_wp2_with (first
              | (at_mapUpdate; refine wpList_put_vm rfl _ _ _ rfl P lp (j : Int) (.int .i64 (100 + x)) hwm Tryz.underlying33 hlp rfl hPm rfl rfl ?_; intro w4 hP4 ht4; have hI4 := hI3.setP hP4 ht4; have hU4 := hI4.u)
              | (at_mapUpdate; refine wpList_put_vm rfl _ _ _ rfl U lu x (.bool true) hwx Tryz.underlying34 hlu rfl hU4 rfl rfl ?_; intro w5 hU5 ht5)
              | go_in)
            have hI5 := hI4.setU hU5 ht5
            have hb5 := bel_set (bel_set hb3 ht4 hI3.b.2.2.2.1 hb3.size) ht5 hI3.b.2.2.2.2 (bel_set hb3 ht4 hI3.b.2.2.2.1 hb3.size).size
            have hLP := HL.out.put hm HM0.out hx0 (by omega) HUS.out HRL.out hI5.a.sk.t.vm.2 hI3.p.2 hI5.p.2 hI3.u.2 hI5.u.2
            go_roundw
            case rel => exact ⟨k + 1, _, v2, _, _, _, by omega, by omega, by go_num, hI5, hLP, hb5⟩
            case measure => simp [intOf]; omega
          · have hs := HMS.out j (by omega)
            have lkj : (Instr.lookup 33 (.map (some P)) (.int .i64 (j : Int)) false).run Tryz.prog w3 = .ok (.int .i64 (s j)) w3 := by
              have := hI3.p.look33 (wf_num (k := (j : Int)) (by omega) (by omega))
              rw [HL.out.p j (by omega), if_neg hs] at this
              exact this
            generalize s j = sj at *
            go_wp2
            go_round
            case rel => exact ⟨j + 1, by omega, by go_num⟩
            case measure => simp [intOf]; omega
    · obtain ⟨i, rfl⟩ : ∃ i : Nat, x = (i : Int) + 6 := ⟨(x - 6).toNat, by omega⟩
      have hi6 : i < 6 := by omega
      by_cases hs : s i = 0
      · have hi0 : (0 : Int) ≤ (i : Int) := by omega
        have hi5 : (i : Int) < 6 := by omega
        have hvn : vlk lp (i : Int) = none := by rw [hL.p i (by omega), if_pos hs]
        have hT := turn_none (l := l) (by omega : i < 64) hs
        have hask := ask_done (tag := (k : Int)) (now := (k : Int)) hT (by decide) (by decide) hI.a
        clear hT hm0 hms
        go_wp2_with fail
        refine hask.mono ?_
        rintro e w2 ⟨D, cp, v2, rfl, hD1, hD2, hD, hA2, hv2, ht2⟩
        have hI2 := hI.ask hb.size hA2 hv2 ht2
        have hb2 := Below.trans hb (hI.bel hb.size ht2)
        have hbd : Below w2.heap.size w2 w2.drew := (Below.refl _ _).drew
        have hI3 := hI2.later hbd
        have hb3 := hb2.trans (hbd.mono hb2.size)
        have d1 := (hD.later hbd).2 1 _ rfl |>.1
        have d2 := (hD.later hbd).2 2 _ rfl |>.1
        clear hask hI hA2 hv2 ht2 hb hD hD1 hD2 hI2 hb2 hbd
        have lk := hI3.p.look33 (wf_num (k := (i : Int)) (by omega) (by omega))
        rw [hvn] at lk
        have HL : Hid _ := hL
        have HVN : Hid _ := hvn
        have hwi : (Lit.int .i64 (i : Int)).wf = true := wf_num (by omega) (by omega)
        clear hL hvn hs
        go_upto_region 23 with fail
        refine wp_region_held_drew (S := (fun X => X.cell? ⟨D, 1, none⟩ = some (.int .i64 5) ∧ (Instr.lookup 33 (.map (some P)) (.int .i64 (i : Int)) false).run Tryz.prog X = .ok (.int .i64 0) X)) (by kernel_rfl) ?_ (fun hHeld => ?_)
        · first | exact ⟨d1, lk⟩ | assumption
        refine wpAnyH_take (i := 0) (oi := ({ dst := some 120, op := Go.Op.move (Go.Operand.tmp 13), type := 36, pos := "theorems.go:182", after := #[], guard := none } : Go.Oper)) (v := .slice (some ⟨D, 0, none⟩) 1 cp) rfl (by kernel_rfl) (by kernel_rfl) (by kernel_rfl) (fun _ _ _ h => h) (Or.inl ⟨by rfl, ?_⟩) (by assumption) ?_
        · intro wx hSw
          try dsimp only at hSw
          obtain ⟨u0, u1⟩ := hSw
          go_simp
          try with_reducible rfl
        try simp only [Act.put, List.setIfInBounds_toArray, List.set_cons_zero, List.set_cons_succ]
        refine wpAnyH_take (i := 1) (oi := ({ dst := some 121, op := Go.Op.call { callee := Go.Callee.builtin Go.Builtin.len, args := #[Go.Operand.tmp 120], argTypes := #[36] }, type := 3, pos := "theorems.go:182", after := #[{ on := 0, ground := Go.Ground.data }], guard := none } : Go.Oper)) (v := .int .i64 1) rfl (by kernel_rfl) (by kernel_rfl) (by kernel_rfl) (fun _ _ _ h => h) (Or.inl ⟨by rfl, ?_⟩) (by assumption) ?_
        · intro wx hSw
          try dsimp only at hSw
          obtain ⟨u0, u1⟩ := hSw
          go_simp
          try with_reducible rfl
        try simp only [Act.put, List.setIfInBounds_toArray, List.set_cons_zero, List.set_cons_succ]
        refine wpAnyH_take (i := 2) (oi := ({ dst := some 122, op := Go.Op.binOp Go.BinOp.neq 3 (Go.Operand.tmp 121) (Go.Operand.const (Go.Value.int Go.IntKind.i64 1)) 3, type := 4, pos := "theorems.go:182", after := #[{ on := 1, ground := Go.Ground.data }], guard := none } : Go.Oper)) (v := .bool false) rfl (by kernel_rfl) (by kernel_rfl) (by kernel_rfl) (fun _ _ _ h => h) (Or.inl ⟨by rfl, ?_⟩) (by assumption) ?_
        · intro wx hSw
          try dsimp only at hSw
          obtain ⟨u0, u1⟩ := hSw
          go_simp
          try with_reducible rfl
        try simp only [Act.put, List.setIfInBounds_toArray, List.set_cons_zero, List.set_cons_succ]
        refine wpAnyH_take (i := 3) (oi := ({ dst := some 123, op := Go.Op.move (Go.Operand.tmp 122), type := 4, pos := "theorems.go:182", after := #[{ on := 2, ground := Go.Ground.data }], guard := none } : Go.Oper)) (v := .bool false) rfl (by kernel_rfl) (by kernel_rfl) (by kernel_rfl) (fun _ _ _ h => h) (Or.inl ⟨by rfl, ?_⟩) (by assumption) ?_
        · intro wx hSw
          try dsimp only at hSw
          obtain ⟨u0, u1⟩ := hSw
          go_simp
          try with_reducible rfl
        try simp only [Act.put, List.setIfInBounds_toArray, List.set_cons_zero, List.set_cons_succ]
        refine wpAnyH_take (i := 4) (oi := ({ dst := some 124, op := Go.Op.move (Go.Operand.tmp 13), type := 36, pos := "theorems.go:182", after := #[{ on := 3, ground := Go.Ground.guard }], guard := some (3, false) } : Go.Oper)) (v := .slice (some ⟨D, 0, none⟩) 1 cp) rfl (by kernel_rfl) (by kernel_rfl) (by kernel_rfl) (fun _ _ _ h => h) (Or.inl ⟨by rfl, ?_⟩) (by assumption) ?_
        · intro wx hSw
          try dsimp only at hSw
          obtain ⟨u0, u1⟩ := hSw
          go_simp
          try with_reducible rfl
        try simp only [Act.put, List.setIfInBounds_toArray, List.set_cons_zero, List.set_cons_succ]
        refine wpAnyH_take (i := 5) (oi := ({ dst := some 125, op := Go.Op.indexAddr 36 (Go.Operand.tmp 124) (Go.Operand.const (Go.Value.int Go.IntKind.i64 0)), type := 0, pos := "theorems.go:182", after := #[{ on := 4, ground := Go.Ground.data }, { on := 3, ground := Go.Ground.guard }], guard := some (3, false) } : Go.Oper)) (v := .pointer (some ⟨D, 0, none⟩)) rfl (by kernel_rfl) (by kernel_rfl) (by kernel_rfl) (fun _ _ _ h => h) (Or.inl ⟨by rfl, ?_⟩) (by assumption) ?_
        · intro wx hSw
          try dsimp only at hSw
          obtain ⟨u0, u1⟩ := hSw
          go_simp
          try with_reducible rfl
        try simp only [Act.put, List.setIfInBounds_toArray, List.set_cons_zero, List.set_cons_succ]
        refine wpAnyH_take (i := 6) (oi := ({ dst := some 126, op := Go.Op.fieldAddr 43 (Go.Operand.tmp 125) 1, type := 0, pos := "theorems.go:182", after := #[{ on := 5, ground := Go.Ground.data }, { on := 3, ground := Go.Ground.guard }], guard := some (3, false) } : Go.Oper)) (v := .pointer (some ⟨D, 1, none⟩)) rfl (by kernel_rfl) (by kernel_rfl) (by kernel_rfl) (fun _ _ _ h => h) (Or.inl ⟨by rfl, ?_⟩) (by assumption) ?_
        · intro wx hSw
          try dsimp only at hSw
          obtain ⟨u0, u1⟩ := hSw
          go_simp
          try with_reducible rfl
        try simp only [Act.put, List.setIfInBounds_toArray, List.set_cons_zero, List.set_cons_succ]
        refine wpAnyH_take (i := 7) (oi := ({ dst := some 127, op := Go.Op.load 24 (Go.Operand.tmp 126), type := 24, pos := "theorems.go:182", after := #[{ on := 6, ground := Go.Ground.data }, { on := 3, ground := Go.Ground.guard }], guard := some (3, false) } : Go.Oper)) (v := .int .i64 5) rfl (by kernel_rfl) (by kernel_rfl) (by kernel_rfl) (fun _ _ _ h => h) (Or.inl ⟨by rfl, ?_⟩) (by assumption) ?_
        · intro wx hSw
          try dsimp only at hSw
          obtain ⟨u0, u1⟩ := hSw
          go_simp
          try with_reducible rfl
        try simp only [Act.put, List.setIfInBounds_toArray, List.set_cons_zero, List.set_cons_succ]
        refine wpAnyH_take (i := 8) (oi := ({ dst := some 128, op := Go.Op.binOp Go.BinOp.eql 24 (Go.Operand.tmp 127) (Go.Operand.const (Go.Value.int Go.IntKind.i64 0)) 24, type := 4, pos := "theorems.go:182", after := #[{ on := 7, ground := Go.Ground.data }, { on := 3, ground := Go.Ground.guard }], guard := some (3, false) } : Go.Oper)) (v := .bool false) rfl (by kernel_rfl) (by kernel_rfl) (by kernel_rfl) (fun _ _ _ h => h) (Or.inl ⟨by rfl, ?_⟩) (by assumption) ?_
        · intro wx hSw
          try dsimp only at hSw
          obtain ⟨u0, u1⟩ := hSw
          go_simp
          try with_reducible rfl
        try simp only [Act.put, List.setIfInBounds_toArray, List.set_cons_zero, List.set_cons_succ]
        refine wpAnyH_take (i := 9) (oi := ({ dst := some 129, op := Go.Op.move (Go.Operand.tmp 5), type := 33, pos := "theorems.go:182", after := #[{ on := 3, ground := Go.Ground.guard }], guard := some (3, false) } : Go.Oper)) (v := .map (some P)) rfl (by kernel_rfl) (by kernel_rfl) (by kernel_rfl) (fun _ _ _ h => h) (Or.inl ⟨by rfl, ?_⟩) (by assumption) ?_
        · intro wx hSw
          try dsimp only at hSw
          obtain ⟨u0, u1⟩ := hSw
          go_simp
          try with_reducible rfl
        try simp only [Act.put, List.setIfInBounds_toArray, List.set_cons_zero, List.set_cons_succ]
        refine wpAnyH_take (i := 10) (oi := ({ dst := some 130, op := Go.Op.move (Go.Operand.tmp 12), type := 3, pos := "theorems.go:182", after := #[{ on := 3, ground := Go.Ground.guard }], guard := some (3, false) } : Go.Oper)) (v := .int .i64 (i : Int)) rfl (by kernel_rfl) (by kernel_rfl) (by kernel_rfl) (fun _ _ _ h => h) (Or.inl ⟨by rfl, ?_⟩) (by assumption) ?_
        · intro wx hSw
          try dsimp only at hSw
          obtain ⟨u0, u1⟩ := hSw
          go_simp
          try with_reducible rfl
        try simp only [Act.put, List.setIfInBounds_toArray, List.set_cons_zero, List.set_cons_succ]
        refine wpAnyH_take (i := 11) (oi := ({ dst := some 131, op := Go.Op.lookup 33 (Go.Operand.tmp 129) (Go.Operand.tmp 130) false, type := 3, pos := "theorems.go:182", after := #[{ on := 9, ground := Go.Ground.data }, { on := 10, ground := Go.Ground.data }, { on := 3, ground := Go.Ground.guard }], guard := some (3, false) } : Go.Oper)) (v := .int .i64 0) rfl (by kernel_rfl) (by kernel_rfl) (by kernel_rfl) (fun _ _ _ h => h) (Or.inl ⟨by rfl, ?_⟩) (by assumption) ?_
        · intro wx hSw
          try dsimp only at hSw
          obtain ⟨u0, u1⟩ := hSw
          go_simp
          try with_reducible rfl
        try simp only [Act.put, List.setIfInBounds_toArray, List.set_cons_zero, List.set_cons_succ]
        refine wpAnyH_take (i := 12) (oi := ({ dst := some 132, op := Go.Op.binOp Go.BinOp.neq 3 (Go.Operand.tmp 131) (Go.Operand.const (Go.Value.int Go.IntKind.i64 0)) 3, type := 4, pos := "theorems.go:182", after := #[{ on := 11, ground := Go.Ground.data }, { on := 3, ground := Go.Ground.guard }], guard := some (3, false) } : Go.Oper)) (v := .bool false) rfl (by kernel_rfl) (by kernel_rfl) (by kernel_rfl) (fun _ _ _ h => h) (Or.inl ⟨by rfl, ?_⟩) (by assumption) ?_
        · intro wx hSw
          try dsimp only at hSw
          obtain ⟨u0, u1⟩ := hSw
          go_simp
          try with_reducible rfl
        try simp only [Act.put, List.setIfInBounds_toArray, List.set_cons_zero, List.set_cons_succ]
        refine wpAnyH_take (i := 13) (oi := ({ dst := some 133, op := Go.Op.binOp Go.BinOp.neq 4 (Go.Operand.tmp 128) (Go.Operand.tmp 132) 4, type := 4, pos := "theorems.go:182", after := #[{ on := 8, ground := Go.Ground.data }, { on := 12, ground := Go.Ground.data }, { on := 3, ground := Go.Ground.guard }], guard := some (3, false) } : Go.Oper)) (v := .bool false) rfl (by kernel_rfl) (by kernel_rfl) (by kernel_rfl) (fun _ _ _ h => h) (Or.inl ⟨by rfl, ?_⟩) (by assumption) ?_
        · intro wx hSw
          try dsimp only at hSw
          obtain ⟨u0, u1⟩ := hSw
          go_simp
          try with_reducible rfl
        try simp only [Act.put, List.setIfInBounds_toArray, List.set_cons_zero, List.set_cons_succ]
        refine wpAnyH_take (i := 14) (oi := ({ dst := some 134, op := Go.Op.pick (Go.Operand.tmp 123) (Go.Operand.const (Go.Value.bool true)) (Go.Operand.tmp 133), type := 4, pos := "theorems.go:182", after := #[{ on := 3, ground := Go.Ground.data }, { on := 13, ground := Go.Ground.data }], guard := none } : Go.Oper)) (v := .bool false) rfl (by kernel_rfl) (by kernel_rfl) (by kernel_rfl) (fun _ _ _ h => h) (Or.inl ⟨by rfl, ?_⟩) (by assumption) ?_
        · intro wx hSw
          try dsimp only at hSw
          obtain ⟨u0, u1⟩ := hSw
          go_simp
          try with_reducible rfl
        try simp only [Act.put, List.setIfInBounds_toArray, List.set_cons_zero, List.set_cons_succ]
        refine wpAnyH_take (i := 15) (oi := ({ dst := some 135, op := Go.Op.move (Go.Operand.tmp 134), type := 4, pos := "theorems.go:182", after := #[{ on := 14, ground := Go.Ground.data }, { on := 3, ground := Go.Ground.chain }], guard := none } : Go.Oper)) (v := .bool false) rfl (by kernel_rfl) (by kernel_rfl) (by kernel_rfl) (fun _ _ _ h => h) (Or.inl ⟨by rfl, ?_⟩) (by assumption) ?_
        · intro wx hSw
          try dsimp only at hSw
          obtain ⟨u0, u1⟩ := hSw
          go_simp
          try with_reducible rfl
        try simp only [Act.put, List.setIfInBounds_toArray, List.set_cons_zero, List.set_cons_succ]
        refine wpAnyH_take (i := 16) (oi := ({ dst := some 136, op := Go.Op.move (Go.Operand.tmp 13), type := 36, pos := "theorems.go:182", after := #[{ on := 15, ground := Go.Ground.guard }], guard := some (15, false) } : Go.Oper)) (v := .slice (some ⟨D, 0, none⟩) 1 cp) rfl (by kernel_rfl) (by kernel_rfl) (by kernel_rfl) (fun _ _ _ h => h) (Or.inl ⟨by rfl, ?_⟩) (by assumption) ?_
        · intro wx hSw
          try dsimp only at hSw
          obtain ⟨u0, u1⟩ := hSw
          go_simp
          try with_reducible rfl
        try simp only [Act.put, List.setIfInBounds_toArray, List.set_cons_zero, List.set_cons_succ]
        refine wpAnyH_take (i := 17) (oi := ({ dst := some 137, op := Go.Op.indexAddr 36 (Go.Operand.tmp 136) (Go.Operand.const (Go.Value.int Go.IntKind.i64 0)), type := 0, pos := "theorems.go:182", after := #[{ on := 16, ground := Go.Ground.data }, { on := 15, ground := Go.Ground.guard }], guard := some (15, false) } : Go.Oper)) (v := .pointer (some ⟨D, 0, none⟩)) rfl (by kernel_rfl) (by kernel_rfl) (by kernel_rfl) (fun _ _ _ h => h) (Or.inl ⟨by rfl, ?_⟩) (by assumption) ?_
        · intro wx hSw
          try dsimp only at hSw
          obtain ⟨u0, u1⟩ := hSw
          go_simp
          try with_reducible rfl
        try simp only [Act.put, List.setIfInBounds_toArray, List.set_cons_zero, List.set_cons_succ]
        refine wpAnyH_take (i := 18) (oi := ({ dst := some 138, op := Go.Op.fieldAddr 43 (Go.Operand.tmp 137) 1, type := 0, pos := "theorems.go:182", after := #[{ on := 17, ground := Go.Ground.data }, { on := 15, ground := Go.Ground.guard }], guard := some (15, false) } : Go.Oper)) (v := .pointer (some ⟨D, 1, none⟩)) rfl (by kernel_rfl) (by kernel_rfl) (by kernel_rfl) (fun _ _ _ h => h) (Or.inl ⟨by rfl, ?_⟩) (by assumption) ?_
        · intro wx hSw
          try dsimp only at hSw
          obtain ⟨u0, u1⟩ := hSw
          go_simp
          try with_reducible rfl
        try simp only [Act.put, List.setIfInBounds_toArray, List.set_cons_zero, List.set_cons_succ]
        refine wpAnyH_take (i := 19) (oi := ({ dst := some 139, op := Go.Op.load 24 (Go.Operand.tmp 138), type := 24, pos := "theorems.go:182", after := #[{ on := 18, ground := Go.Ground.data }, { on := 15, ground := Go.Ground.guard }], guard := some (15, false) } : Go.Oper)) (v := .int .i64 5) rfl (by kernel_rfl) (by kernel_rfl) (by kernel_rfl) (fun _ _ _ h => h) (Or.inl ⟨by rfl, ?_⟩) (by assumption) ?_
        · intro wx hSw
          try dsimp only at hSw
          obtain ⟨u0, u1⟩ := hSw
          go_simp
          try with_reducible rfl
        try simp only [Act.put, List.setIfInBounds_toArray, List.set_cons_zero, List.set_cons_succ]
        refine wpAnyH_take (i := 20) (oi := ({ dst := some 140, op := Go.Op.binOp Go.BinOp.neq 24 (Go.Operand.tmp 139) (Go.Operand.const (Go.Value.int Go.IntKind.i64 0)) 24, type := 4, pos := "theorems.go:182", after := #[{ on := 19, ground := Go.Ground.data }, { on := 15, ground := Go.Ground.guard }], guard := some (15, false) } : Go.Oper)) (v := .bool true) rfl (by kernel_rfl) (by kernel_rfl) (by kernel_rfl) (fun _ _ _ h => h) (Or.inl ⟨by rfl, ?_⟩) (by assumption) ?_
        · intro wx hSw
          try dsimp only at hSw
          obtain ⟨u0, u1⟩ := hSw
          go_simp
          try with_reducible rfl
        try simp only [Act.put, List.setIfInBounds_toArray, List.set_cons_zero, List.set_cons_succ]
        refine wpAnyH_take (i := 21) (oi := ({ dst := some 141, op := Go.Op.move (Go.Operand.tmp 140), type := 4, pos := "theorems.go:182", after := #[{ on := 20, ground := Go.Ground.data }, { on := 15, ground := Go.Ground.chain }, { on := 15, ground := Go.Ground.guard }], guard := some (15, false) } : Go.Oper)) (v := .bool true) rfl (by kernel_rfl) (by kernel_rfl) (by kernel_rfl) (fun _ _ _ h => h) (Or.inl ⟨by rfl, ?_⟩) (by assumption) ?_
        · intro wx hSw
          try dsimp only at hSw
          obtain ⟨u0, u1⟩ := hSw
          go_simp
          try with_reducible rfl
        try simp only [Act.put, List.setIfInBounds_toArray, List.set_cons_zero, List.set_cons_succ]
        refine wpAnyH_take (i := 22) (oi := ({ dst := some 142, op := Go.Op.move (Go.Operand.tmp 13), type := 36, pos := "theorems.go:182", after := #[{ on := 21, ground := Go.Ground.guard }], guard := some (21, true) } : Go.Oper)) (v := .slice (some ⟨D, 0, none⟩) 1 cp) rfl (by kernel_rfl) (by kernel_rfl) (by kernel_rfl) (fun _ _ _ h => h) (Or.inl ⟨by rfl, ?_⟩) (by assumption) ?_
        · intro wx hSw
          try dsimp only at hSw
          obtain ⟨u0, u1⟩ := hSw
          go_simp
          try with_reducible rfl
        try simp only [Act.put, List.setIfInBounds_toArray, List.set_cons_zero, List.set_cons_succ]
        refine wpAnyH_take (i := 23) (oi := ({ dst := some 143, op := Go.Op.indexAddr 36 (Go.Operand.tmp 142) (Go.Operand.const (Go.Value.int Go.IntKind.i64 0)), type := 0, pos := "theorems.go:182", after := #[{ on := 22, ground := Go.Ground.data }, { on := 21, ground := Go.Ground.guard }], guard := some (21, true) } : Go.Oper)) (v := .pointer (some ⟨D, 0, none⟩)) rfl (by kernel_rfl) (by kernel_rfl) (by kernel_rfl) (fun _ _ _ h => h) (Or.inl ⟨by rfl, ?_⟩) (by assumption) ?_
        · intro wx hSw
          try dsimp only at hSw
          obtain ⟨u0, u1⟩ := hSw
          go_simp
          try with_reducible rfl
        try simp only [Act.put, List.setIfInBounds_toArray, List.set_cons_zero, List.set_cons_succ]
        refine wpAnyH_take (i := 24) (oi := ({ dst := some 144, op := Go.Op.fieldAddr 43 (Go.Operand.tmp 143) 1, type := 0, pos := "theorems.go:182", after := #[{ on := 23, ground := Go.Ground.data }, { on := 21, ground := Go.Ground.guard }], guard := some (21, true) } : Go.Oper)) (v := .pointer (some ⟨D, 1, none⟩)) rfl (by kernel_rfl) (by kernel_rfl) (by kernel_rfl) (fun _ _ _ h => h) (Or.inl ⟨by rfl, ?_⟩) (by assumption) ?_
        · intro wx hSw
          try dsimp only at hSw
          obtain ⟨u0, u1⟩ := hSw
          go_simp
          try with_reducible rfl
        try simp only [Act.put, List.setIfInBounds_toArray, List.set_cons_zero, List.set_cons_succ]
        refine wpAnyH_take (i := 25) (oi := ({ dst := some 145, op := Go.Op.load 24 (Go.Operand.tmp 144), type := 24, pos := "theorems.go:182", after := #[{ on := 24, ground := Go.Ground.data }, { on := 21, ground := Go.Ground.guard }], guard := some (21, true) } : Go.Oper)) (v := .int .i64 5) rfl (by kernel_rfl) (by kernel_rfl) (by kernel_rfl) (fun _ _ _ h => h) (Or.inl ⟨by rfl, ?_⟩) (by assumption) ?_
        · intro wx hSw
          try dsimp only at hSw
          obtain ⟨u0, u1⟩ := hSw
          go_simp
          try with_reducible rfl
        try simp only [Act.put, List.setIfInBounds_toArray, List.set_cons_zero, List.set_cons_succ]
        refine wpAnyH_take (i := 26) (oi := ({ dst := some 146, op := Go.Op.binOp Go.BinOp.neq 24 (Go.Operand.tmp 145) (Go.Operand.const (Go.Value.int Go.IntKind.i64 5)) 24, type := 4, pos := "theorems.go:182", after := #[{ on := 25, ground := Go.Ground.data }, { on := 21, ground := Go.Ground.guard }], guard := some (21, true) } : Go.Oper)) (v := .bool false) rfl (by kernel_rfl) (by kernel_rfl) (by kernel_rfl) (fun _ _ _ h => h) (Or.inl ⟨by rfl, ?_⟩) (by assumption) ?_
        · intro wx hSw
          try dsimp only at hSw
          obtain ⟨u0, u1⟩ := hSw
          go_simp
          try with_reducible rfl
        try simp only [Act.put, List.setIfInBounds_toArray, List.set_cons_zero, List.set_cons_succ]
        refine wpAnyH_take (i := 27) (oi := ({ dst := some 147, op := Go.Op.pick (Go.Operand.tmp 141) (Go.Operand.tmp 146) (Go.Operand.const (Go.Value.bool false)), type := 4, pos := "theorems.go:182", after := #[{ on := 21, ground := Go.Ground.data }, { on := 26, ground := Go.Ground.data }, { on := 15, ground := Go.Ground.guard }], guard := some (15, false) } : Go.Oper)) (v := .bool false) rfl (by kernel_rfl) (by kernel_rfl) (by kernel_rfl) (fun _ _ _ h => h) (Or.inl ⟨by rfl, ?_⟩) (by assumption) ?_
        · intro wx hSw
          try dsimp only at hSw
          obtain ⟨u0, u1⟩ := hSw
          go_simp
          try with_reducible rfl
        try simp only [Act.put, List.setIfInBounds_toArray, List.set_cons_zero, List.set_cons_succ]
        refine wpAnyH_take (i := 28) (oi := ({ dst := some 148, op := Go.Op.pick (Go.Operand.tmp 135) (Go.Operand.const (Go.Value.bool true)) (Go.Operand.tmp 147), type := 4, pos := "theorems.go:182", after := #[{ on := 15, ground := Go.Ground.data }, { on := 27, ground := Go.Ground.data }], guard := none } : Go.Oper)) (v := .bool false) rfl (by kernel_rfl) (by kernel_rfl) (by kernel_rfl) (fun _ _ _ h => h) (Or.inl ⟨by rfl, ?_⟩) (by assumption) ?_
        · intro wx hSw
          try dsimp only at hSw
          obtain ⟨u0, u1⟩ := hSw
          go_simp
          try with_reducible rfl
        try simp only [Act.put, List.setIfInBounds_toArray, List.set_cons_zero, List.set_cons_succ]
        refine wpAnyH_done (by kernel_rfl) ?_ _
        clear hHeld d1 d2
        generalize w2.drew = w3 at *
        have hPm := hI3.p
        go_wp2_with (first
          | (at_delete; refine wpList_delete_vm rfl _ _ rfl P lp (i : Int) hwi Tryz.underlying33 rfl hPm rfl ?_; intro w4 hP4 ht4)
          | go_in)
        rw [vdel_none HVN.out] at hP4
        have hI4 := hI3.setP hP4 ht4
        have hb4 := bel_set hb3 ht4 hI3.b.2.2.2.1 hb3.size
        go_roundw
        case rel => exact ⟨k + 1, _, v2, _, _, _, by omega, by omega, by go_num, hI4, HL.out.same, hb4⟩
        case measure => simp [intOf]; omega
      · have hi0 : (0 : Int) ≤ (i : Int) := by omega
        have hi5 : (i : Int) < 6 := by omega
        have hrg : 100 ≤ s i ∧ s i ≤ 105 := by rcases hL.rg i with e | e; exact absurd e hs; exact e
        have hvn : vlk lp (i : Int) = some (.int .i64 (s i)) := by rw [hL.p i (by omega), if_neg hs]
        have HRL : Hid (VRise l) := hI.a.sk.t.vm.2
        have hT := turn_close (by omega : i < 64) (by omega) (by omega) (hL.l1 (s i) hs ⟨i, by omega, rfl⟩)
        have hask := ask_done (tag := (k : Int)) (now := (k : Int)) hT (by decide) (by decide) hI.a
        clear hT hm0 hms
        go_wp2_with fail
        refine hask.mono ?_
        rintro e w2 ⟨D, cp, v2, rfl, hD1, hD2, hD, hA2, hv2, ht2⟩
        have hI2 := hI.ask hb.size hA2 hv2 ht2
        have hb2 := Below.trans hb (hI.bel hb.size ht2)
        have hbd : Below w2.heap.size w2 w2.drew := (Below.refl _ _).drew
        have hI3 := hI2.later hbd
        have hb3 := hb2.trans (hbd.mono hb2.size)
        have d1 := (hD.later hbd).2 1 _ rfl |>.1
        have d2 := (hD.later hbd).2 2 _ rfl |>.1
        clear hask hI hA2 hv2 ht2 hb hD hD1 hD2 hI2 hb2 hbd
        have lk := hI3.p.look33 (wf_num (k := (i : Int)) (by omega) (by omega))
        rw [hvn] at lk
        have HL : Hid _ := hL
        have HS : Hid _ := hs
        clear hL hvn hs
        have hwi : (Lit.int .i64 (i : Int)).wf = true := wf_num (by omega) (by omega)
        have hwp : (Lit.int .i64 (s i - 100)).wf = true := wf_num (by omega) (by omega)
        have hlu : lu.length < 1000000 := by have := HL.out.nu; omega
        obtain ⟨q, hq⟩ : ∃ q, q = s i := ⟨_, rfl⟩
        rw [← hq] at hrg lk hwp
        have HQ : Hid (q = s i) := hq
        clear hq
        have hq0 : ¬ q = 0 := by omega
        have hq1 : 100 ≤ q := hrg.1
        have hq2 : q ≤ 105 := hrg.2
        clear hrg
        go_upto_region 23 with fail
        refine wp_region_held_drew (S := (fun X => X.cell? ⟨D, 1, none⟩ = some (.int .i64 0) ∧ (Instr.lookup 33 (.map (some P)) (.int .i64 (i : Int)) false).run Tryz.prog X = .ok (.int .i64 q) X)) (by kernel_rfl) ?_ (fun hHeld => ?_)
        · first | exact ⟨d1, lk⟩ | assumption
        refine wpAnyH_take (i := 0) (oi := ({ dst := some 120, op := Go.Op.move (Go.Operand.tmp 13), type := 36, pos := "theorems.go:182", after := #[], guard := none } : Go.Oper)) (v := .slice (some ⟨D, 0, none⟩) 1 cp) rfl (by kernel_rfl) (by kernel_rfl) (by kernel_rfl) (fun _ _ _ h => h) (Or.inl ⟨by rfl, ?_⟩) (by assumption) ?_
        · intro wx hSw
          try dsimp only at hSw
          obtain ⟨u0, u1⟩ := hSw
          go_simp
          try with_reducible rfl
        try simp only [Act.put, List.setIfInBounds_toArray, List.set_cons_zero, List.set_cons_succ]
        refine wpAnyH_take (i := 1) (oi := ({ dst := some 121, op := Go.Op.call { callee := Go.Callee.builtin Go.Builtin.len, args := #[Go.Operand.tmp 120], argTypes := #[36] }, type := 3, pos := "theorems.go:182", after := #[{ on := 0, ground := Go.Ground.data }], guard := none } : Go.Oper)) (v := .int .i64 1) rfl (by kernel_rfl) (by kernel_rfl) (by kernel_rfl) (fun _ _ _ h => h) (Or.inl ⟨by rfl, ?_⟩) (by assumption) ?_
        · intro wx hSw
          try dsimp only at hSw
          obtain ⟨u0, u1⟩ := hSw
          go_simp
          try with_reducible rfl
        try simp only [Act.put, List.setIfInBounds_toArray, List.set_cons_zero, List.set_cons_succ]
        refine wpAnyH_take (i := 2) (oi := ({ dst := some 122, op := Go.Op.binOp Go.BinOp.neq 3 (Go.Operand.tmp 121) (Go.Operand.const (Go.Value.int Go.IntKind.i64 1)) 3, type := 4, pos := "theorems.go:182", after := #[{ on := 1, ground := Go.Ground.data }], guard := none } : Go.Oper)) (v := .bool false) rfl (by kernel_rfl) (by kernel_rfl) (by kernel_rfl) (fun _ _ _ h => h) (Or.inl ⟨by rfl, ?_⟩) (by assumption) ?_
        · intro wx hSw
          try dsimp only at hSw
          obtain ⟨u0, u1⟩ := hSw
          go_simp
          try with_reducible rfl
        try simp only [Act.put, List.setIfInBounds_toArray, List.set_cons_zero, List.set_cons_succ]
        refine wpAnyH_take (i := 3) (oi := ({ dst := some 123, op := Go.Op.move (Go.Operand.tmp 122), type := 4, pos := "theorems.go:182", after := #[{ on := 2, ground := Go.Ground.data }], guard := none } : Go.Oper)) (v := .bool false) rfl (by kernel_rfl) (by kernel_rfl) (by kernel_rfl) (fun _ _ _ h => h) (Or.inl ⟨by rfl, ?_⟩) (by assumption) ?_
        · intro wx hSw
          try dsimp only at hSw
          obtain ⟨u0, u1⟩ := hSw
          go_simp
          try with_reducible rfl
        try simp only [Act.put, List.setIfInBounds_toArray, List.set_cons_zero, List.set_cons_succ]
        refine wpAnyH_take (i := 4) (oi := ({ dst := some 124, op := Go.Op.move (Go.Operand.tmp 13), type := 36, pos := "theorems.go:182", after := #[{ on := 3, ground := Go.Ground.guard }], guard := some (3, false) } : Go.Oper)) (v := .slice (some ⟨D, 0, none⟩) 1 cp) rfl (by kernel_rfl) (by kernel_rfl) (by kernel_rfl) (fun _ _ _ h => h) (Or.inl ⟨by rfl, ?_⟩) (by assumption) ?_
        · intro wx hSw
          try dsimp only at hSw
          obtain ⟨u0, u1⟩ := hSw
          go_simp
          try with_reducible rfl
        try simp only [Act.put, List.setIfInBounds_toArray, List.set_cons_zero, List.set_cons_succ]
        refine wpAnyH_take (i := 5) (oi := ({ dst := some 125, op := Go.Op.indexAddr 36 (Go.Operand.tmp 124) (Go.Operand.const (Go.Value.int Go.IntKind.i64 0)), type := 0, pos := "theorems.go:182", after := #[{ on := 4, ground := Go.Ground.data }, { on := 3, ground := Go.Ground.guard }], guard := some (3, false) } : Go.Oper)) (v := .pointer (some ⟨D, 0, none⟩)) rfl (by kernel_rfl) (by kernel_rfl) (by kernel_rfl) (fun _ _ _ h => h) (Or.inl ⟨by rfl, ?_⟩) (by assumption) ?_
        · intro wx hSw
          try dsimp only at hSw
          obtain ⟨u0, u1⟩ := hSw
          go_simp
          try with_reducible rfl
        try simp only [Act.put, List.setIfInBounds_toArray, List.set_cons_zero, List.set_cons_succ]
        refine wpAnyH_take (i := 6) (oi := ({ dst := some 126, op := Go.Op.fieldAddr 43 (Go.Operand.tmp 125) 1, type := 0, pos := "theorems.go:182", after := #[{ on := 5, ground := Go.Ground.data }, { on := 3, ground := Go.Ground.guard }], guard := some (3, false) } : Go.Oper)) (v := .pointer (some ⟨D, 1, none⟩)) rfl (by kernel_rfl) (by kernel_rfl) (by kernel_rfl) (fun _ _ _ h => h) (Or.inl ⟨by rfl, ?_⟩) (by assumption) ?_
        · intro wx hSw
          try dsimp only at hSw
          obtain ⟨u0, u1⟩ := hSw
          go_simp
          try with_reducible rfl
        try simp only [Act.put, List.setIfInBounds_toArray, List.set_cons_zero, List.set_cons_succ]
        refine wpAnyH_take (i := 7) (oi := ({ dst := some 127, op := Go.Op.load 24 (Go.Operand.tmp 126), type := 24, pos := "theorems.go:182", after := #[{ on := 6, ground := Go.Ground.data }, { on := 3, ground := Go.Ground.guard }], guard := some (3, false) } : Go.Oper)) (v := .int .i64 0) rfl (by kernel_rfl) (by kernel_rfl) (by kernel_rfl) (fun _ _ _ h => h) (Or.inl ⟨by rfl, ?_⟩) (by assumption) ?_
        · intro wx hSw
          try dsimp only at hSw
          obtain ⟨u0, u1⟩ := hSw
          go_simp
          try with_reducible rfl
        try simp only [Act.put, List.setIfInBounds_toArray, List.set_cons_zero, List.set_cons_succ]
        refine wpAnyH_take (i := 8) (oi := ({ dst := some 128, op := Go.Op.binOp Go.BinOp.eql 24 (Go.Operand.tmp 127) (Go.Operand.const (Go.Value.int Go.IntKind.i64 0)) 24, type := 4, pos := "theorems.go:182", after := #[{ on := 7, ground := Go.Ground.data }, { on := 3, ground := Go.Ground.guard }], guard := some (3, false) } : Go.Oper)) (v := .bool true) rfl (by kernel_rfl) (by kernel_rfl) (by kernel_rfl) (fun _ _ _ h => h) (Or.inl ⟨by rfl, ?_⟩) (by assumption) ?_
        · intro wx hSw
          try dsimp only at hSw
          obtain ⟨u0, u1⟩ := hSw
          go_simp
          try with_reducible rfl
        try simp only [Act.put, List.setIfInBounds_toArray, List.set_cons_zero, List.set_cons_succ]
        refine wpAnyH_take (i := 9) (oi := ({ dst := some 129, op := Go.Op.move (Go.Operand.tmp 5), type := 33, pos := "theorems.go:182", after := #[{ on := 3, ground := Go.Ground.guard }], guard := some (3, false) } : Go.Oper)) (v := .map (some P)) rfl (by kernel_rfl) (by kernel_rfl) (by kernel_rfl) (fun _ _ _ h => h) (Or.inl ⟨by rfl, ?_⟩) (by assumption) ?_
        · intro wx hSw
          try dsimp only at hSw
          obtain ⟨u0, u1⟩ := hSw
          go_simp
          try with_reducible rfl
        try simp only [Act.put, List.setIfInBounds_toArray, List.set_cons_zero, List.set_cons_succ]
        refine wpAnyH_take (i := 10) (oi := ({ dst := some 130, op := Go.Op.move (Go.Operand.tmp 12), type := 3, pos := "theorems.go:182", after := #[{ on := 3, ground := Go.Ground.guard }], guard := some (3, false) } : Go.Oper)) (v := .int .i64 (i : Int)) rfl (by kernel_rfl) (by kernel_rfl) (by kernel_rfl) (fun _ _ _ h => h) (Or.inl ⟨by rfl, ?_⟩) (by assumption) ?_
        · intro wx hSw
          try dsimp only at hSw
          obtain ⟨u0, u1⟩ := hSw
          go_simp
          try with_reducible rfl
        try simp only [Act.put, List.setIfInBounds_toArray, List.set_cons_zero, List.set_cons_succ]
        refine wpAnyH_take (i := 11) (oi := ({ dst := some 131, op := Go.Op.lookup 33 (Go.Operand.tmp 129) (Go.Operand.tmp 130) false, type := 3, pos := "theorems.go:182", after := #[{ on := 9, ground := Go.Ground.data }, { on := 10, ground := Go.Ground.data }, { on := 3, ground := Go.Ground.guard }], guard := some (3, false) } : Go.Oper)) (v := .int .i64 q) rfl (by kernel_rfl) (by kernel_rfl) (by kernel_rfl) (fun _ _ _ h => h) (Or.inl ⟨by rfl, ?_⟩) (by assumption) ?_
        · intro wx hSw
          try dsimp only at hSw
          obtain ⟨u0, u1⟩ := hSw
          go_simp
          try with_reducible rfl
        try simp only [Act.put, List.setIfInBounds_toArray, List.set_cons_zero, List.set_cons_succ]
        refine wpAnyH_take (i := 12) (oi := ({ dst := some 132, op := Go.Op.binOp Go.BinOp.neq 3 (Go.Operand.tmp 131) (Go.Operand.const (Go.Value.int Go.IntKind.i64 0)) 3, type := 4, pos := "theorems.go:182", after := #[{ on := 11, ground := Go.Ground.data }, { on := 3, ground := Go.Ground.guard }], guard := some (3, false) } : Go.Oper)) (v := .bool true) rfl (by kernel_rfl) (by kernel_rfl) (by kernel_rfl) (fun _ _ _ h => h) (Or.inl ⟨by rfl, ?_⟩) (by assumption) ?_
        · intro wx hSw
          try dsimp only at hSw
          obtain ⟨u0, u1⟩ := hSw
          go_simp
          try with_reducible rfl
        try simp only [Act.put, List.setIfInBounds_toArray, List.set_cons_zero, List.set_cons_succ]
        refine wpAnyH_take (i := 13) (oi := ({ dst := some 133, op := Go.Op.binOp Go.BinOp.neq 4 (Go.Operand.tmp 128) (Go.Operand.tmp 132) 4, type := 4, pos := "theorems.go:182", after := #[{ on := 8, ground := Go.Ground.data }, { on := 12, ground := Go.Ground.data }, { on := 3, ground := Go.Ground.guard }], guard := some (3, false) } : Go.Oper)) (v := .bool false) rfl (by kernel_rfl) (by kernel_rfl) (by kernel_rfl) (fun _ _ _ h => h) (Or.inl ⟨by rfl, ?_⟩) (by assumption) ?_
        · intro wx hSw
          try dsimp only at hSw
          obtain ⟨u0, u1⟩ := hSw
          go_simp
          try with_reducible rfl
        try simp only [Act.put, List.setIfInBounds_toArray, List.set_cons_zero, List.set_cons_succ]
        refine wpAnyH_take (i := 14) (oi := ({ dst := some 134, op := Go.Op.pick (Go.Operand.tmp 123) (Go.Operand.const (Go.Value.bool true)) (Go.Operand.tmp 133), type := 4, pos := "theorems.go:182", after := #[{ on := 3, ground := Go.Ground.data }, { on := 13, ground := Go.Ground.data }], guard := none } : Go.Oper)) (v := .bool false) rfl (by kernel_rfl) (by kernel_rfl) (by kernel_rfl) (fun _ _ _ h => h) (Or.inl ⟨by rfl, ?_⟩) (by assumption) ?_
        · intro wx hSw
          try dsimp only at hSw
          obtain ⟨u0, u1⟩ := hSw
          go_simp
          try with_reducible rfl
        try simp only [Act.put, List.setIfInBounds_toArray, List.set_cons_zero, List.set_cons_succ]
        refine wpAnyH_take (i := 15) (oi := ({ dst := some 135, op := Go.Op.move (Go.Operand.tmp 134), type := 4, pos := "theorems.go:182", after := #[{ on := 14, ground := Go.Ground.data }, { on := 3, ground := Go.Ground.chain }], guard := none } : Go.Oper)) (v := .bool false) rfl (by kernel_rfl) (by kernel_rfl) (by kernel_rfl) (fun _ _ _ h => h) (Or.inl ⟨by rfl, ?_⟩) (by assumption) ?_
        · intro wx hSw
          try dsimp only at hSw
          obtain ⟨u0, u1⟩ := hSw
          go_simp
          try with_reducible rfl
        try simp only [Act.put, List.setIfInBounds_toArray, List.set_cons_zero, List.set_cons_succ]
        refine wpAnyH_take (i := 16) (oi := ({ dst := some 136, op := Go.Op.move (Go.Operand.tmp 13), type := 36, pos := "theorems.go:182", after := #[{ on := 15, ground := Go.Ground.guard }], guard := some (15, false) } : Go.Oper)) (v := .slice (some ⟨D, 0, none⟩) 1 cp) rfl (by kernel_rfl) (by kernel_rfl) (by kernel_rfl) (fun _ _ _ h => h) (Or.inl ⟨by rfl, ?_⟩) (by assumption) ?_
        · intro wx hSw
          try dsimp only at hSw
          obtain ⟨u0, u1⟩ := hSw
          go_simp
          try with_reducible rfl
        try simp only [Act.put, List.setIfInBounds_toArray, List.set_cons_zero, List.set_cons_succ]
        refine wpAnyH_take (i := 17) (oi := ({ dst := some 137, op := Go.Op.indexAddr 36 (Go.Operand.tmp 136) (Go.Operand.const (Go.Value.int Go.IntKind.i64 0)), type := 0, pos := "theorems.go:182", after := #[{ on := 16, ground := Go.Ground.data }, { on := 15, ground := Go.Ground.guard }], guard := some (15, false) } : Go.Oper)) (v := .pointer (some ⟨D, 0, none⟩)) rfl (by kernel_rfl) (by kernel_rfl) (by kernel_rfl) (fun _ _ _ h => h) (Or.inl ⟨by rfl, ?_⟩) (by assumption) ?_
        · intro wx hSw
          try dsimp only at hSw
          obtain ⟨u0, u1⟩ := hSw
          go_simp
          try with_reducible rfl
        try simp only [Act.put, List.setIfInBounds_toArray, List.set_cons_zero, List.set_cons_succ]
        refine wpAnyH_take (i := 18) (oi := ({ dst := some 138, op := Go.Op.fieldAddr 43 (Go.Operand.tmp 137) 1, type := 0, pos := "theorems.go:182", after := #[{ on := 17, ground := Go.Ground.data }, { on := 15, ground := Go.Ground.guard }], guard := some (15, false) } : Go.Oper)) (v := .pointer (some ⟨D, 1, none⟩)) rfl (by kernel_rfl) (by kernel_rfl) (by kernel_rfl) (fun _ _ _ h => h) (Or.inl ⟨by rfl, ?_⟩) (by assumption) ?_
        · intro wx hSw
          try dsimp only at hSw
          obtain ⟨u0, u1⟩ := hSw
          go_simp
          try with_reducible rfl
        try simp only [Act.put, List.setIfInBounds_toArray, List.set_cons_zero, List.set_cons_succ]
        refine wpAnyH_take (i := 19) (oi := ({ dst := some 139, op := Go.Op.load 24 (Go.Operand.tmp 138), type := 24, pos := "theorems.go:182", after := #[{ on := 18, ground := Go.Ground.data }, { on := 15, ground := Go.Ground.guard }], guard := some (15, false) } : Go.Oper)) (v := .int .i64 0) rfl (by kernel_rfl) (by kernel_rfl) (by kernel_rfl) (fun _ _ _ h => h) (Or.inl ⟨by rfl, ?_⟩) (by assumption) ?_
        · intro wx hSw
          try dsimp only at hSw
          obtain ⟨u0, u1⟩ := hSw
          go_simp
          try with_reducible rfl
        try simp only [Act.put, List.setIfInBounds_toArray, List.set_cons_zero, List.set_cons_succ]
        refine wpAnyH_take (i := 20) (oi := ({ dst := some 140, op := Go.Op.binOp Go.BinOp.neq 24 (Go.Operand.tmp 139) (Go.Operand.const (Go.Value.int Go.IntKind.i64 0)) 24, type := 4, pos := "theorems.go:182", after := #[{ on := 19, ground := Go.Ground.data }, { on := 15, ground := Go.Ground.guard }], guard := some (15, false) } : Go.Oper)) (v := .bool false) rfl (by kernel_rfl) (by kernel_rfl) (by kernel_rfl) (fun _ _ _ h => h) (Or.inl ⟨by rfl, ?_⟩) (by assumption) ?_
        · intro wx hSw
          try dsimp only at hSw
          obtain ⟨u0, u1⟩ := hSw
          go_simp
          try with_reducible rfl
        try simp only [Act.put, List.setIfInBounds_toArray, List.set_cons_zero, List.set_cons_succ]
        refine wpAnyH_take (i := 21) (oi := ({ dst := some 141, op := Go.Op.move (Go.Operand.tmp 140), type := 4, pos := "theorems.go:182", after := #[{ on := 20, ground := Go.Ground.data }, { on := 15, ground := Go.Ground.chain }, { on := 15, ground := Go.Ground.guard }], guard := some (15, false) } : Go.Oper)) (v := .bool false) rfl (by kernel_rfl) (by kernel_rfl) (by kernel_rfl) (fun _ _ _ h => h) (Or.inl ⟨by rfl, ?_⟩) (by assumption) ?_
        · intro wx hSw
          try dsimp only at hSw
          obtain ⟨u0, u1⟩ := hSw
          go_simp
          try with_reducible rfl
        try simp only [Act.put, List.setIfInBounds_toArray, List.set_cons_zero, List.set_cons_succ]
        refine wpAnyH_take (i := 22) (oi := ({ dst := some 142, op := Go.Op.move (Go.Operand.tmp 13), type := 36, pos := "theorems.go:182", after := #[{ on := 21, ground := Go.Ground.guard }], guard := some (21, true) } : Go.Oper)) (v := undef) rfl (by kernel_rfl) (by kernel_rfl) (by kernel_rfl) (fun _ _ _ h => h) (Or.inr ⟨by rfl, rfl⟩) (by assumption) ?_
        try simp only [Act.put, List.setIfInBounds_toArray, List.set_cons_zero, List.set_cons_succ]
        refine wpAnyH_take (i := 23) (oi := ({ dst := some 143, op := Go.Op.indexAddr 36 (Go.Operand.tmp 142) (Go.Operand.const (Go.Value.int Go.IntKind.i64 0)), type := 0, pos := "theorems.go:182", after := #[{ on := 22, ground := Go.Ground.data }, { on := 21, ground := Go.Ground.guard }], guard := some (21, true) } : Go.Oper)) (v := undef) rfl (by kernel_rfl) (by kernel_rfl) (by kernel_rfl) (fun _ _ _ h => h) (Or.inr ⟨by rfl, rfl⟩) (by assumption) ?_
        try simp only [Act.put, List.setIfInBounds_toArray, List.set_cons_zero, List.set_cons_succ]
        refine wpAnyH_take (i := 24) (oi := ({ dst := some 144, op := Go.Op.fieldAddr 43 (Go.Operand.tmp 143) 1, type := 0, pos := "theorems.go:182", after := #[{ on := 23, ground := Go.Ground.data }, { on := 21, ground := Go.Ground.guard }], guard := some (21, true) } : Go.Oper)) (v := undef) rfl (by kernel_rfl) (by kernel_rfl) (by kernel_rfl) (fun _ _ _ h => h) (Or.inr ⟨by rfl, rfl⟩) (by assumption) ?_
        try simp only [Act.put, List.setIfInBounds_toArray, List.set_cons_zero, List.set_cons_succ]
        refine wpAnyH_take (i := 25) (oi := ({ dst := some 145, op := Go.Op.load 24 (Go.Operand.tmp 144), type := 24, pos := "theorems.go:182", after := #[{ on := 24, ground := Go.Ground.data }, { on := 21, ground := Go.Ground.guard }], guard := some (21, true) } : Go.Oper)) (v := undef) rfl (by kernel_rfl) (by kernel_rfl) (by kernel_rfl) (fun _ _ _ h => h) (Or.inr ⟨by rfl, rfl⟩) (by assumption) ?_
        try simp only [Act.put, List.setIfInBounds_toArray, List.set_cons_zero, List.set_cons_succ]
        refine wpAnyH_take (i := 26) (oi := ({ dst := some 146, op := Go.Op.binOp Go.BinOp.neq 24 (Go.Operand.tmp 145) (Go.Operand.const (Go.Value.int Go.IntKind.i64 5)) 24, type := 4, pos := "theorems.go:182", after := #[{ on := 25, ground := Go.Ground.data }, { on := 21, ground := Go.Ground.guard }], guard := some (21, true) } : Go.Oper)) (v := undef) rfl (by kernel_rfl) (by kernel_rfl) (by kernel_rfl) (fun _ _ _ h => h) (Or.inr ⟨by rfl, rfl⟩) (by assumption) ?_
        try simp only [Act.put, List.setIfInBounds_toArray, List.set_cons_zero, List.set_cons_succ]
        refine wpAnyH_take (i := 27) (oi := ({ dst := some 147, op := Go.Op.pick (Go.Operand.tmp 141) (Go.Operand.tmp 146) (Go.Operand.const (Go.Value.bool false)), type := 4, pos := "theorems.go:182", after := #[{ on := 21, ground := Go.Ground.data }, { on := 26, ground := Go.Ground.data }, { on := 15, ground := Go.Ground.guard }], guard := some (15, false) } : Go.Oper)) (v := .bool false) rfl (by kernel_rfl) (by kernel_rfl) (by kernel_rfl) (fun _ _ _ h => h) (Or.inl ⟨by rfl, ?_⟩) (by assumption) ?_
        · intro wx hSw
          try dsimp only at hSw
          obtain ⟨u0, u1⟩ := hSw
          go_simp
          try with_reducible rfl
        try simp only [Act.put, List.setIfInBounds_toArray, List.set_cons_zero, List.set_cons_succ]
        refine wpAnyH_take (i := 28) (oi := ({ dst := some 148, op := Go.Op.pick (Go.Operand.tmp 135) (Go.Operand.const (Go.Value.bool true)) (Go.Operand.tmp 147), type := 4, pos := "theorems.go:182", after := #[{ on := 15, ground := Go.Ground.data }, { on := 27, ground := Go.Ground.data }], guard := none } : Go.Oper)) (v := .bool false) rfl (by kernel_rfl) (by kernel_rfl) (by kernel_rfl) (fun _ _ _ h => h) (Or.inl ⟨by rfl, ?_⟩) (by assumption) ?_
        · intro wx hSw
          try dsimp only at hSw
          obtain ⟨u0, u1⟩ := hSw
          go_simp
          try with_reducible rfl
        try simp only [Act.put, List.setIfInBounds_toArray, List.set_cons_zero, List.set_cons_succ]
        refine wpAnyH_done (by kernel_rfl) ?_ _
        clear hHeld d1 d2
        generalize w2.drew = w3 at *
        have hPm := hI3.u
        go_wp2_with (first
          | (at_mapUpdate; refine wpList_put_vm rfl _ _ _ rfl U lu (q - 100) (.bool false) hwp Tryz.underlying34 hlu rfl hPm rfl rfl ?_; intro w4 hU4 ht4; have hI4 := hI3.setU hU4 ht4; have hP4 := hI4.p)
          | (at_delete; refine wpList_delete_vm rfl _ _ rfl P lp (i : Int) hwi Tryz.underlying33 rfl hP4 rfl ?_; intro w5 hP5 ht5)
          | go_in)
        have hI5 := hI4.setP hP5 ht5
        have hb5 := bel_set (bel_set hb3 ht4 hI3.b.2.2.2.2 hb3.size) ht5 hI3.b.2.2.2.1 (bel_set hb3 ht4 hI3.b.2.2.2.2 hb3.size).size
        have hu4 := hU4.2
        rw [HQ.out] at hI5 hu4
        have hLP := HL.out.del (by omega : i < 64) HS.out HRL.out hI3.p.2 hI3.u.2 hu4
        go_roundw
        case rel => exact ⟨k + 1, _, v2, _, _, _, by omega, by omega, by go_num, hI5, hLP, hb5⟩
        case measure => simp [intOf]; omega
end Go.Proofs.YthbpapgfjmpgaaaGreat
