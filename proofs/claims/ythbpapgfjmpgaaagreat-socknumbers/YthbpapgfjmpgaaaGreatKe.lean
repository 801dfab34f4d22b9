/- listen, accept, turn. -/
import Derived.Test.YthbpapgfjmpgaaaGreatKd
namespace Go.Proofs.YthbpapgfjmpgaaaGreat
open Go.RowKit Go.Maps
set_option maxRecDepth 100000
set_option linter.unusedVariables false
set_option linter.unusedSimpArgs false


abbrev waitV (tag kind fd port : Int) : Array Value := #[.int .i64 tag, .int .i64 kind, .int .i64 fd, .int .i64 0, .int .i64 port, .int .i64 0, .string ⟨#[]⟩, .int .i64 0, .int .i64 0, .int .i64 0]
abbrev lookV (B : Nat) (now : Int) : Array Value := #[PB B, .int .i64 now, .slice none 0 0]
/-- The blocks that a call may turn. -/
abbrev BS (B T L J : Nat) : Nat → Prop := fun k => k = B ∨ k = T ∨ k = L ∨ k = J
theorem SK.step {w w' : World} {B T L M R : Nat} {s : Nat → Int} {v : Value} {l : List Vn} (h : SK w B T L M s v l) (ht : Turn (fun k => k = R) w w') (hB : B ≠ R) (hT : T ≠ R) (hL : L ≠ R) (hM : M ≠ R) : SK w' B T L M s v l := h.turn ht hB hT hL hM
set_option maxHeartbeats 1000000 in
theorem listen_ok {w : World} {B T L M J : Nat} {s : Nat → Int} {v : Value} {l : List Vn} {m : Nat} {p now : Int} (h : SK w B T L M s v l) (hJ : At w J (lookV B now)) (k1 : J ≠ B) (k2 : J ≠ T) (k3 : J ≠ L)
    (hm : m < 64) (hm0 : s m = 0) (hms : ∀ i, i < m → s i ≠ 0) (h0 : 1 ≤ p) (h1 : p ≤ 65535) (hl : vlk l p = none) (hn : l.length < 1000) :
    Calls Tryz.prog 21 #[PB J, .int .i64 p] w fun e w' => e = .returned (doneV 0 0 (m : Int)) ∧ SK w' B T L M (upS s m p) v (vput l (p, EV)) ∧ At w' J (lookV B now) ∧ Turn (BS B T L J) w w' := by
  have HMS : Hid (∀ i, i < m → s i ≠ 0) := hms
  clear hms
  go_enter Tryz.func21, Tryz.ntmps21
  go_upto_region 1 with fail
  have q1 := bel1 w (.cells #[.int .i64 0, .int .i64 0, .int .i64 0, .int .i64 0, .string ⟨#[]⟩] 43)
  have hR := At.box w #[.int .i64 0, .int .i64 0, .int .i64 0, .int .i64 0, .string ⟨#[]⟩] 43
  have hr_B : B ≠ w.heap.size := by have := h.lt; omega
  have hr_T : T ≠ w.heap.size := by have := h.lt; omega
  have hr_L : L ≠ w.heap.size := by have := h.lt; omega
  have hr_M : M ≠ w.heap.size := by have := h.lt; omega
  have hr_J : J ≠ w.heap.size := by have := hJ.1; omega
  have h := h.later q1
  have hJ := hJ.later q1
  have ht1 := Turn.of_below (S := fun k => k = B ∨ k = T ∨ k = L ∨ k = J) q1
  generalize w.alloc (.cells #[.int .i64 0, .int .i64 0, .int .i64 0, .int .i64 0, .string ⟨#[]⟩] 43) = x1 at *
  obtain ⟨R, hRe⟩ : ∃ x, x = w.heap.size := ⟨_, rfl⟩
  rw [← hRe] at hR hr_B hr_T hr_L hr_M hr_J ⊢
  have hRle : w.heap.size ≤ R := by omega
  clear q1 hRe
  have j0 : x1.cell? ⟨J, 0, none⟩ = some (PB B) := (hJ.2 0 _ rfl).1
  go_wp2_with fail
  refine (free_any h.b m hm hm0 HMS.out).mono ?_
  rintro e x2 ⟨rfl, rfl⟩
  have b0 := h.b.c0
  go_wp2_with fail
  refine (listen_t h.t h0 h1 hl hn).mono ?_
  rintro e x3 ⟨rfl, t3, ht3⟩
  have b3 := h.b.turn ht3 h.n2
  have J3 := hJ.turn ht3 k3
  have R3 := hR.turn ht3 (fun e => hr_L e.symm)
  have n1 := h.n1
  have n2 := h.n2
  have n3 := h.n3
  have ht3 : Turn (BS B T L J) w x3 := ht1.trans (ht3.mono fun k e => Or.inr (Or.inr (Or.inl e)))
  clear h hJ hR ht1 j0 b0
  have j0 : x3.cell? ⟨J, 0, none⟩ = some (PB B) := (J3.2 0 _ rfl).1
  have g1 := (b3.cs m hm).1
  have g2 := (b3.cs m hm).2
  have hm1 : (m : Int) < 64 := by omega
  have hm2 : (0 : Int) ≤ (m : Int) := by omega
  have hp0 : p ≠ 0 := by omega
  go_upto_region 8 with go_in
  have e1 := sV_one hp0
  have b4 := b3.setS m hm p
  rw [e1] at b4
  have hts := turn_set x3 B (1 + m) (.iface 82 (.agg #[.int .i64 p]))
  have J4 := J3.turn hts k1
  have R4 := R3.turn hts (fun e => hr_B e.symm)
  have t4 := t3.turn hts (fun e => n1 e.symm) (fun e => n2 e.symm) (fun e => n3 e.symm)
  have ht4 := ht3.trans (hts.mono fun k e => Or.inl e)
  clear j0 g1 g2 b3 t3 J3 R3 ht3 hts e1
  generalize x3.setCell ⟨B, 1 + m, none⟩ (.iface 82 (.agg #[.int .i64 p])) = x4 at *
  obtain ⟨r0, r1, r2, r3, r4, s0, s1, s2, s3, s4⟩ := R4.five
  obtain ⟨R6, tp6⟩ := R4.put5 (.int .i64 0) (.int .i64 0) (.int .i64 (m : Int)) (.int .i64 0) (.string ⟨#[]⟩)
  have fin : SK (put5 x4 R (.int .i64 0) (.int .i64 0) (.int .i64 (m : Int)) (.int .i64 0) (.string ⟨#[]⟩)) B T L M (upS s m p) v (vput l (p, EV)) ∧ _ ∧ Turn (BS B T L J) w (put5 x4 R (.int .i64 0) (.int .i64 0) (.int .i64 (m : Int)) (.int .i64 0) (.string ⟨#[]⟩)) :=
    ⟨⟨b4.turn tp6 hr_B, t4.turn tp6 hr_T hr_L hr_M, n1, n2, n3⟩, J4.turn tp6 hr_J, ht4.step tp6 (fun j e => Or.inr (by omega))⟩
  have FIN : Hid _ := fin
  have R7 : Hid _ := R6
  clear fin R6 tp6 b4 t4 J4 R4 ht4 hl
  go_wp2
  refine bodyPost_ret (v := doneV 0 0 (m : Int)) (ret_done (i := 4) Tryz.results21 R7.out rfl rfl) rfl ?_
  exact ⟨rfl, FIN.out⟩
set_option maxHeartbeats 1000000 in
theorem listen_used {w : World} {B T L M J : Nat} {s : Nat → Int} {v : Value} {l : List Vn} {m : Nat} {p now : Int} (h : SK w B T L M s v l) (hJ : At w J (lookV B now))
    (hm : m < 64) (hm0 : s m = 0) (hms : ∀ i, i < m → s i ≠ 0) (h0 : 1 ≤ p) (h1 : p ≤ 65535) (hl : vlk l p = some EV) :
    Calls Tryz.prog 21 #[PB J, .int .i64 p] w fun e w' => e = .returned (doneV 0 190 0) ∧ Below w.heap.size w w' := by
  have HMS : Hid (∀ i, i < m → s i ≠ 0) := hms
  clear hms
  go_enter Tryz.func21, Tryz.ntmps21
  go_upto_region 1 with fail
  have qq := bel1 w (.cells #[.int .i64 0, .int .i64 0, .int .i64 0, .int .i64 0, .string ⟨#[]⟩] 43)
  have q1 := bel1 w (.cells #[.int .i64 0, .int .i64 0, .int .i64 0, .int .i64 0, .string ⟨#[]⟩] 43)
  have hR := At.box w #[.int .i64 0, .int .i64 0, .int .i64 0, .int .i64 0, .string ⟨#[]⟩] 43
  have hr_B : B ≠ w.heap.size := by have := h.lt; omega
  have hr_T : T ≠ w.heap.size := by have := h.lt; omega
  have hr_L : L ≠ w.heap.size := by have := h.lt; omega
  have hr_M : M ≠ w.heap.size := by have := h.lt; omega
  have hr_J : J ≠ w.heap.size := by have := hJ.1; omega
  have h := h.later q1
  have hJ := hJ.later q1
  have ht1 := Turn.of_below (S := fun k => k = B ∨ k = T ∨ k = L ∨ k = J) q1
  generalize w.alloc (.cells #[.int .i64 0, .int .i64 0, .int .i64 0, .int .i64 0, .string ⟨#[]⟩] 43) = x1 at *
  obtain ⟨R, hRe⟩ : ∃ x, x = w.heap.size := ⟨_, rfl⟩
  rw [← hRe] at hR hr_B hr_T hr_L hr_M hr_J ⊢
  have hRle : w.heap.size ≤ R := by omega
  clear q1 hRe
  have j0 : x1.cell? ⟨J, 0, none⟩ = some (PB B) := (hJ.2 0 _ rfl).1
  go_wp2_with fail
  refine (free_any h.b m hm hm0 HMS.out).mono ?_
  rintro e x2 ⟨rfl, rfl⟩
  have b0 := h.b.c0
  go_wp2_with fail
  refine (listen_f h.t h0 h1 hl).mono ?_
  rintro e x3 ⟨rfl, hb3⟩
  have R3 := hR.later hb3
  have qq := bt qq hb3
  clear h hJ hR ht1 j0 b0 hb3
  go_wp2_with fail
  refine (refused_any 190 x3).mono ?_
  rintro e x4 ⟨rfl, hb4⟩
  have R4 := R3.later hb4
  have qq := bt qq hb4
  obtain ⟨r0, r1, r2, r3, r4, s0, s1, s2, s3, s4⟩ := R4.five
  obtain ⟨R6, tp6⟩ := R4.put5 (.int .i64 0) (.int .i64 190) (.int .i64 0) (.int .i64 0) (.string ⟨#[]⟩)
  have fin : Below w.heap.size w (put5 x4 R (.int .i64 0) (.int .i64 190) (.int .i64 0) (.int .i64 0) (.string ⟨#[]⟩)) := qq.trans (tp6.below qq.size (fun k hk e => by omega))
  have FIN : Hid _ := fin
  have R7 : Hid _ := R6
  clear fin R6 tp6 R4 R3 hb4 hl qq
  go_wp2
  refine bodyPost_ret (v := doneV 0 190 0) (ret_done (i := 4) Tryz.results21 R7.out rfl rfl) rfl ?_
  exact ⟨rfl, FIN.out⟩
set_option maxHeartbeats 1000000 in
theorem accept_w {w : World} {B T L M J : Nat} {s : Nat → Int} {v : Value} {l : List Vn} {m : Nat} {p now : Int} (h : SK w B T L M s v l) (hJ : At w J (lookV B now))
    (hm : m < 64) (hm0 : s m = 0) (hms : ∀ i, i < m → s i ≠ 0) :
    Calls Tryz.prog 24 #[PB J, .agg #[.int .i64 p]] w fun e w' => e = .returned (.tuple #[doneV 0 0 0, .bool false]) ∧ Below w.heap.size w w' := by
  have HMS : Hid (∀ i, i < m → s i ≠ 0) := hms
  clear hms
  have qa := bel1 w (.cells #[.int .i64 p] 82)
  have hb := At.box w #[.int .i64 p] 82
  go_enter Tryz.func24, Tryz.ntmps24
  go_upto_region 1 with fail
  have h := h.later qa
  have hJ := hJ.later qa
  have hsz : (w.alloc (.cells #[.int .i64 p] 82)).heap.size = w.heap.size + 1 := World.size_alloc _ _
  generalize w.alloc (.cells #[.int .i64 p] 82) = x0 at *
  rw [← hsz]
  clear hsz
  have qq := bel1 x0 (.cells #[.int .i64 0, .int .i64 0, .int .i64 0, .int .i64 0, .string ⟨#[]⟩] 43)
  obtain ⟨bb, hbb⟩ : ∃ x, x = w.heap.size := ⟨_, rfl⟩
  rw [← hbb] at hb ⊢
  clear hbb
  have hb := hb.later qq
  have q1 := bel1 x0 (.cells #[.int .i64 0, .int .i64 0, .int .i64 0, .int .i64 0, .string ⟨#[]⟩] 43)
  have hR := At.box x0 #[.int .i64 0, .int .i64 0, .int .i64 0, .int .i64 0, .string ⟨#[]⟩] 43
  have hr_B : B ≠ x0.heap.size := by have := h.lt; omega
  have hr_T : T ≠ x0.heap.size := by have := h.lt; omega
  have hr_L : L ≠ x0.heap.size := by have := h.lt; omega
  have hr_M : M ≠ x0.heap.size := by have := h.lt; omega
  have hr_J : J ≠ x0.heap.size := by have := hJ.1; omega
  have h := h.later q1
  have hJ := hJ.later q1
  have ht1 := Turn.of_below (S := fun k => k = B ∨ k = T ∨ k = L ∨ k = J) q1
  generalize x0.alloc (.cells #[.int .i64 0, .int .i64 0, .int .i64 0, .int .i64 0, .string ⟨#[]⟩] 43) = x1 at *
  obtain ⟨R, hRe⟩ : ∃ x, x = x0.heap.size := ⟨_, rfl⟩
  rw [← hRe] at hR hr_B hr_T hr_L hr_M hr_J ⊢
  have hRle : x0.heap.size ≤ R := by omega
  clear q1 hRe
  have qw := bt qa qq
  have j0 : x1.cell? ⟨J, 0, none⟩ = some (PB B) := (hJ.2 0 _ rfl).1
  go_wp2_with fail
  refine (free_any h.b m hm hm0 HMS.out).mono ?_
  rintro e x2 ⟨rfl, rfl⟩
  go_upto_region 4 with fail
  have hdr : Below x2.heap.size x2 x2.drew := (Below.refl _ _).drew
  have q0 : x2.drew.cell? ⟨J, 0, none⟩ = some (PB B) := (hJ.2 0 _ rfl).1
  have q1 : x2.drew.cell? ⟨B, 0, none⟩ = some (PB T) := h.b.c0
  have q2 : x2.drew.cell? ⟨bb, 0, none⟩ = some (.int .i64 p) := (hb.2 0 _ rfl).1
  refine wp_region_held_drew (S := (fun X => X.cell? ⟨J, 0, none⟩ = some (PB B) ∧ X.cell? ⟨B, 0, none⟩ = some (PB T) ∧ X.cell? ⟨bb, 0, none⟩ = some (.int .i64 p))) (by kernel_rfl) ?_ (fun hHeld => ?_)
  · first | exact ⟨q0, q1, q2⟩ | assumption
  refine wpAnyH_take (i := 0) (oi := ({ dst := some 20, op := Go.Op.move (Go.Operand.tmp 0), type := 70, pos := "look.go:76", after := #[], guard := none } : Go.Oper)) (v := PB J) rfl (by kernel_rfl) (by kernel_rfl) (by kernel_rfl) (fun _ _ _ h => h) (Or.inl ⟨by rfl, ?_⟩) (by assumption) ?_
  · intro wx hSw
    try dsimp only at hSw
    obtain ⟨u0, u1, u2⟩ := hSw
    go_simp
    try with_reducible rfl
  try simp only [Act.put, List.setIfInBounds_toArray, List.set_cons_zero, List.set_cons_succ]
  refine wpAnyH_take (i := 1) (oi := ({ dst := some 21, op := Go.Op.nilCheck (Go.Operand.tmp 20), type := 0, pos := "look.go:76", after := #[{ on := 0, ground := Go.Ground.data }], guard := none } : Go.Oper)) (v := PB J) rfl (by kernel_rfl) (by kernel_rfl) (by kernel_rfl) (fun _ _ _ h => h) (Or.inl ⟨by rfl, ?_⟩) (by assumption) ?_
  · intro wx hSw
    try dsimp only at hSw
    obtain ⟨u0, u1, u2⟩ := hSw
    go_simp
    try with_reducible rfl
  try simp only [Act.put, List.setIfInBounds_toArray, List.set_cons_zero, List.set_cons_succ]
  refine wpAnyH_take (i := 2) (oi := ({ dst := some 22, op := Go.Op.fieldAddr 72 (Go.Operand.tmp 21) 0, type := 0, pos := "look.go:76", after := #[{ on := 1, ground := Go.Ground.data }], guard := none } : Go.Oper)) (v := .pointer (some ⟨J, 0, none⟩)) rfl (by kernel_rfl) (by kernel_rfl) (by kernel_rfl) (fun _ _ _ h => h) (Or.inl ⟨by rfl, ?_⟩) (by assumption) ?_
  · intro wx hSw
    try dsimp only at hSw
    obtain ⟨u0, u1, u2⟩ := hSw
    go_simp
    try with_reducible rfl
  try simp only [Act.put, List.setIfInBounds_toArray, List.set_cons_zero, List.set_cons_succ]
  refine wpAnyH_take (i := 3) (oi := ({ dst := some 23, op := Go.Op.load 23 (Go.Operand.tmp 22), type := 23, pos := "look.go:76", after := #[{ on := 2, ground := Go.Ground.data }], guard := none } : Go.Oper)) (v := PB B) rfl (by kernel_rfl) (by kernel_rfl) (by kernel_rfl) (fun _ _ _ h => h) (Or.inl ⟨by rfl, ?_⟩) (by assumption) ?_
  · intro wx hSw
    try dsimp only at hSw
    obtain ⟨u0, u1, u2⟩ := hSw
    go_simp
    try with_reducible rfl
  try simp only [Act.put, List.setIfInBounds_toArray, List.set_cons_zero, List.set_cons_succ]
  refine wpAnyH_take (i := 4) (oi := ({ dst := some 24, op := Go.Op.nilCheck (Go.Operand.tmp 23), type := 0, pos := "look.go:76", after := #[{ on := 3, ground := Go.Ground.data }], guard := none } : Go.Oper)) (v := PB B) rfl (by kernel_rfl) (by kernel_rfl) (by kernel_rfl) (fun _ _ _ h => h) (Or.inl ⟨by rfl, ?_⟩) (by assumption) ?_
  · intro wx hSw
    try dsimp only at hSw
    obtain ⟨u0, u1, u2⟩ := hSw
    go_simp
    try with_reducible rfl
  try simp only [Act.put, List.setIfInBounds_toArray, List.set_cons_zero, List.set_cons_succ]
  refine wpAnyH_take (i := 5) (oi := ({ dst := some 25, op := Go.Op.fieldAddr 54 (Go.Operand.tmp 24) 0, type := 0, pos := "look.go:76", after := #[{ on := 4, ground := Go.Ground.data }], guard := none } : Go.Oper)) (v := .pointer (some ⟨B, 0, none⟩)) rfl (by kernel_rfl) (by kernel_rfl) (by kernel_rfl) (fun _ _ _ h => h) (Or.inl ⟨by rfl, ?_⟩) (by assumption) ?_
  · intro wx hSw
    try dsimp only at hSw
    obtain ⟨u0, u1, u2⟩ := hSw
    go_simp
    try with_reducible rfl
  try simp only [Act.put, List.setIfInBounds_toArray, List.set_cons_zero, List.set_cons_succ]
  refine wpAnyH_take (i := 6) (oi := ({ dst := some 26, op := Go.Op.load 46 (Go.Operand.tmp 25), type := 46, pos := "look.go:76", after := #[{ on := 5, ground := Go.Ground.data }], guard := none } : Go.Oper)) (v := PB T) rfl (by kernel_rfl) (by kernel_rfl) (by kernel_rfl) (fun _ _ _ h => h) (Or.inl ⟨by rfl, ?_⟩) (by assumption) ?_
  · intro wx hSw
    try dsimp only at hSw
    obtain ⟨u0, u1, u2⟩ := hSw
    go_simp
    try with_reducible rfl
  try simp only [Act.put, List.setIfInBounds_toArray, List.set_cons_zero, List.set_cons_succ]
  refine wpAnyH_take (i := 7) (oi := ({ dst := some 27, op := Go.Op.fieldAddr 82 (Go.Operand.tmp 3) 0, type := 0, pos := "look.go:76", after := #[], guard := none } : Go.Oper)) (v := .pointer (some ⟨bb, 0, none⟩)) rfl (by kernel_rfl) (by kernel_rfl) (by kernel_rfl) (fun _ _ _ h => h) (Or.inl ⟨by rfl, ?_⟩) (by assumption) ?_
  · intro wx hSw
    try dsimp only at hSw
    obtain ⟨u0, u1, u2⟩ := hSw
    go_simp
    try with_reducible rfl
  try simp only [Act.put, List.setIfInBounds_toArray, List.set_cons_zero, List.set_cons_succ]
  refine wpAnyH_take (i := 8) (oi := ({ dst := some 28, op := Go.Op.load 3 (Go.Operand.tmp 27), type := 3, pos := "look.go:76", after := #[{ on := 7, ground := Go.Ground.data }], guard := none } : Go.Oper)) (v := .int .i64 p) rfl (by kernel_rfl) (by kernel_rfl) (by kernel_rfl) (fun _ _ _ h => h) (Or.inl ⟨by rfl, ?_⟩) (by assumption) ?_
  · intro wx hSw
    try dsimp only at hSw
    obtain ⟨u0, u1, u2⟩ := hSw
    go_simp
    try with_reducible rfl
  try simp only [Act.put, List.setIfInBounds_toArray, List.set_cons_zero, List.set_cons_succ]
  refine wpAnyH_ready (rs := [9]) (by kernel_rfl) (by simp) ?_
  refine AllReadyH.cons (o := ({ dst := some 29, op := Go.Op.call { callee := Go.Callee.value (Go.Operand.func 33), args := #[Go.Operand.tmp 26, Go.Operand.tmp 28], argTypes := #[46, 3] }, type := 91, pos := "look.go:76", after := #[{ on := 6, ground := Go.Ground.data }, { on := 8, ground := Go.Ground.data }], guard := none } : Go.Oper)) rfl (fun K hK => ?_) AllReadyH.nil
  go_simp
  refine (accept_no (h.t.later hdr)).mono ?_
  rintro e wk ⟨rfl, rfl⟩
  refine hK.out _ _ hHeld (fun hHeld => ?_)
  clear hK K
  try simp only [Act.put, List.setIfInBounds_toArray, List.set_cons_zero, List.set_cons_succ]
  refine wpAnyH_take (i := 10) (oi := ({ dst := some 19, op := Go.Op.move (Go.Operand.tmp 29), type := 91, pos := "look.go:76", after := #[{ on := 9, ground := Go.Ground.data }], guard := none } : Go.Oper)) (v := .tuple #[.int .i64 0, .bool false]) rfl (by kernel_rfl) (by kernel_rfl) (by kernel_rfl) (fun _ _ _ h => h) (Or.inl ⟨by rfl, ?_⟩) (by assumption) ?_
  · intro wx hSw
    try dsimp only at hSw
    obtain ⟨u0, u1, u2⟩ := hSw
    go_simp
    try with_reducible rfl
  try simp only [Act.put, List.setIfInBounds_toArray, List.set_cons_zero, List.set_cons_succ]
  refine wpAnyH_take (i := 11) (oi := ({ dst := some 30, op := Go.Op.extract (Go.Operand.tmp 19) 0, type := 3, pos := "look.go:76", after := #[{ on := 10, ground := Go.Ground.data }], guard := none } : Go.Oper)) (v := .int .i64 0) rfl (by kernel_rfl) (by kernel_rfl) (by kernel_rfl) (fun _ _ _ h => h) (Or.inl ⟨by rfl, ?_⟩) (by assumption) ?_
  · intro wx hSw
    try dsimp only at hSw
    obtain ⟨u0, u1, u2⟩ := hSw
    go_simp
    try with_reducible rfl
  try simp only [Act.put, List.setIfInBounds_toArray, List.set_cons_zero, List.set_cons_succ]
  refine wpAnyH_take (i := 12) (oi := ({ dst := some 31, op := Go.Op.extract (Go.Operand.tmp 19) 1, type := 4, pos := "look.go:76", after := #[{ on := 10, ground := Go.Ground.data }, { on := 13, ground := Go.Ground.gcOnly Go.Departure.lateStores }], guard := none } : Go.Oper)) (v := .bool false) rfl (by kernel_rfl) (by kernel_rfl) (by kernel_rfl) (fun _ _ _ h => h) (Or.inl ⟨by rfl, ?_⟩) (by assumption) ?_
  · intro wx hSw
    try dsimp only at hSw
    obtain ⟨u0, u1, u2⟩ := hSw
    go_simp
    try with_reducible rfl
  try simp only [Act.put, List.setIfInBounds_toArray, List.set_cons_zero, List.set_cons_succ]
  refine wpAnyH_take (i := 13) (oi := ({ dst := some 7, op := Go.Op.assign (Go.Operand.tmp 30), type := 3, pos := "look.go:76", after := #[{ on := 11, ground := Go.Ground.data }, { on := 9, ground := Go.Ground.chain }, { on := 0, ground := Go.Ground.phase }, { on := 1, ground := Go.Ground.phase }, { on := 2, ground := Go.Ground.phase }, { on := 3, ground := Go.Ground.phase }, { on := 4, ground := Go.Ground.phase }, { on := 5, ground := Go.Ground.phase }, { on := 6, ground := Go.Ground.phase }, { on := 7, ground := Go.Ground.phase }, { on := 8, ground := Go.Ground.phase }, { on := 9, ground := Go.Ground.phase }, { on := 10, ground := Go.Ground.phase }, { on := 11, ground := Go.Ground.phase }, { on := 12, ground := Go.Ground.textOnly Go.Departure.lateStores }], guard := none } : Go.Oper)) (v := .int .i64 0) rfl (by kernel_rfl) (by kernel_rfl) (by kernel_rfl) (fun _ _ _ h => h) (Or.inl ⟨by rfl, ?_⟩) (by assumption) ?_
  · intro wx hSw
    try dsimp only at hSw
    obtain ⟨u0, u1, u2⟩ := hSw
    go_simp
    try with_reducible rfl
  try simp only [Act.put, List.setIfInBounds_toArray, List.set_cons_zero, List.set_cons_succ]
  refine wpAnyH_take (i := 14) (oi := ({ dst := some 5, op := Go.Op.assign (Go.Operand.tmp 31), type := 4, pos := "look.go:76", after := #[{ on := 12, ground := Go.Ground.data }, { on := 13, ground := Go.Ground.chain }, { on := 0, ground := Go.Ground.phase }, { on := 1, ground := Go.Ground.phase }, { on := 2, ground := Go.Ground.phase }, { on := 3, ground := Go.Ground.phase }, { on := 4, ground := Go.Ground.phase }, { on := 5, ground := Go.Ground.phase }, { on := 6, ground := Go.Ground.phase }, { on := 7, ground := Go.Ground.phase }, { on := 8, ground := Go.Ground.phase }, { on := 9, ground := Go.Ground.phase }, { on := 10, ground := Go.Ground.phase }, { on := 11, ground := Go.Ground.phase }, { on := 12, ground := Go.Ground.phase }, { on := 13, ground := Go.Ground.phase }], guard := none } : Go.Oper)) (v := .bool false) rfl (by kernel_rfl) (by kernel_rfl) (by kernel_rfl) (fun _ _ _ h => h) (Or.inl ⟨by rfl, ?_⟩) (by assumption) ?_
  · intro wx hSw
    try dsimp only at hSw
    obtain ⟨u0, u1, u2⟩ := hSw
    go_simp
    try with_reducible rfl
  try simp only [Act.put, List.setIfInBounds_toArray, List.set_cons_zero, List.set_cons_succ]
  refine wpAnyH_done (by kernel_rfl) ?_ _
  have R3 := hR.later hdr
  have qw := bt qw hdr
  clear h hJ hR ht1 j0 q0 q1 q2 hHeld hb hdr
  generalize x2.drew = x4 at *
  obtain ⟨r0, r1, r2, r3, r4, s0, s1, s2, s3, s4⟩ := R3.five
  obtain ⟨R6, tp6⟩ := R3.put5 (.int .i64 0) (.int .i64 0) (.int .i64 0) (.int .i64 0) (.string ⟨#[]⟩)
  have hq0 := qa.size
  have fin : Below w.heap.size w (put5 x4 R (.int .i64 0) (.int .i64 0) (.int .i64 0) (.int .i64 0) (.string ⟨#[]⟩)) := qw.trans (tp6.below qw.size (fun k hk e => by omega))
  have FIN : Hid _ := fin
  have R7 : Hid _ := R6
  clear fin R6 tp6 R3 qw hq0 qa
  go_wp2
  refine bodyPost_ret (v := .tuple #[doneV 0 0 0, .bool false]) (ret_done2 (i := 4) (j := 5) Tryz.results24 R7.out rfl rfl rfl) rfl ?_
  exact ⟨rfl, FIN.out⟩
end Go.Proofs.YthbpapgfjmpgaaaGreat
