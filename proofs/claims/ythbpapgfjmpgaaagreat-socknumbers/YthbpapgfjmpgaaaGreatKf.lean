/- turn. -/
import Derived.Test.YthbpapgfjmpgaaaGreatKe
namespace Go.Proofs.YthbpapgfjmpgaaaGreat
open Go.RowKit Go.Maps
set_option maxRecDepth 100000
set_option linter.unusedVariables false
set_option linter.unusedSimpArgs false


/-- What a request comes to at its turn: the answer, and the state. -/
def TurnC (kind fd port : Int) (s : Nat → Int) (l : List Vn) (c f : Int) (d : Bool) (s' : Nat → Int) (l' : List Vn) : Prop :=
  ∀ (w : World) (B T L M J W : Nat) (v : Value) (tag now : Int), SK w B T L M s v l → At w J (lookV B now) → At w W (waitV tag kind fd port) → J ≠ B → J ≠ T → J ≠ L → J ≠ M → W ≠ B → W ≠ T → W ≠ L → W ≠ J →
    Calls Tryz.prog 17 #[PB J, PB W] w fun e w' => e = .returned (.tuple #[doneV 0 c f, .bool d]) ∧ SK w' B T L M s' v l' ∧ At w' J (lookV B now) ∧ Turn (BS B T L J) w w'
theorem ta_t (p : Int) (w : World) : (Instr.typeAssert (lV p) 50 82 true).run Tryz.prog w = .ok (.tuple #[.agg #[.int .i64 p], .bool true]) w := by kernel_rfl
theorem ta_n (w : World) : (Instr.typeAssert .nilIface 50 82 true).run Tryz.prog w = .ok (.tuple #[.agg #[.int .i64 0], .bool false]) w := by kernel_rfl
theorem ta_n2 (w : World) : (Instr.typeAssert .nilIface 50 58 true).run Tryz.prog w = .ok (.tuple #[.agg #[.int .i64 0], .bool false]) w := by kernel_rfl
set_option maxHeartbeats 1000000 in
theorem turn_listen {s : Nat → Int} {l : List Vn} {m : Nat} {p : Int} (hm : m < 64) (hm0 : s m = 0) (hms : ∀ i, i < m → s i ≠ 0) (h0 : 1 ≤ p) (h1 : p ≤ 65535) (hl : vlk l p = none) (hn : l.length < 1000) : TurnC 1 0 p s l 0 (m : Int) true (upS s m p) (vput l (p, EV)) := by
  have HMS : Hid (∀ i, i < m → s i ≠ 0) := hms
  clear hms
  intro w B T L M J W v tag now h hJ hW k1 k2 k3 k4 w1 w2 w3 w4
  go_enter Tryz.func17, Tryz.ntmps17
  go_upto_region 1 with fail
  have q1 := bel1 w (.cells #[.int .i64 0, .int .i64 0, .int .i64 0, .int .i64 0, .string ⟨#[]⟩] 43)
  have hR := At.box w #[.int .i64 0, .int .i64 0, .int .i64 0, .int .i64 0, .string ⟨#[]⟩] 43
  have hr_B : B ≠ w.heap.size := by have := h.lt; omega
  have hr_T : T ≠ w.heap.size := by have := h.lt; omega
  have hr_L : L ≠ w.heap.size := by have := h.lt; omega
  have hr_M : M ≠ w.heap.size := by have := h.lt; omega
  have hr_J : J ≠ w.heap.size := by have := hJ.1; omega
  have hr_W : W ≠ w.heap.size := by have := hW.1; omega
  have h := h.later q1
  have hJ := hJ.later q1
  have hW := hW.later q1
  have ht1 := Turn.of_below (S := fun k => k = B ∨ k = T ∨ k = L ∨ k = J) q1
  generalize w.alloc (.cells #[.int .i64 0, .int .i64 0, .int .i64 0, .int .i64 0, .string ⟨#[]⟩] 43) = x1 at *
  obtain ⟨R, hRe⟩ : ∃ x, x = w.heap.size := ⟨_, rfl⟩
  rw [← hRe] at hR hr_B hr_T hr_L hr_M hr_J hr_W ⊢
  have hRle : w.heap.size ≤ R := by omega
  clear q1 hRe
  have hRn : ¬ BS B T L J R := by rintro (e | e | e | e) <;> omega
  have cw : x1.cell? ⟨W, 1, none⟩ = some (.int .i64 1) := (hW.2 1 _ rfl).1
  have cp : x1.cell? ⟨W, 4, none⟩ = some (.int .i64 p) := (hW.2 4 _ rfl).1
  go_wp2_with fail
  refine (listen_ok h hJ k1 k2 k3 hm hm0 HMS.out h0 h1 hl hn).mono ?_
  rintro e x2 ⟨rfl, h9, J9, ht2⟩
  have R9 := hR.turn ht2 hRn
  have t9 := ht1.trans ht2
  clear h hJ hW hR ht1 ht2 cw cp hl hm0
  obtain ⟨r0, r1, r2, r3, r4, s0, s1, s2, s3, s4⟩ := R9.five
  obtain ⟨R6, tp6⟩ := R9.put5 (.int .i64 0) (.int .i64 0) (.int .i64 (m : Int)) (.int .i64 0) (.string ⟨#[]⟩)
  have fin : SK (put5 x2 R (.int .i64 0) (.int .i64 0) (.int .i64 (m : Int)) (.int .i64 0) (.string ⟨#[]⟩)) B T L M (upS s m p) v (vput l (p, EV)) ∧ At (put5 x2 R (.int .i64 0) (.int .i64 0) (.int .i64 (m : Int)) (.int .i64 0) (.string ⟨#[]⟩)) J (lookV B now) ∧ Turn (BS B T L J) w (put5 x2 R (.int .i64 0) (.int .i64 0) (.int .i64 (m : Int)) (.int .i64 0) (.string ⟨#[]⟩)) :=
    ⟨h9.step tp6 hr_B hr_T hr_L hr_M, J9.turn tp6 hr_J, t9.step tp6 (fun j e => Or.inr (by omega))⟩
  have FIN : Hid _ := fin
  have R7 : Hid _ := R6
  clear fin R6 tp6 h9 J9 R9 t9
  go_wp2
  refine bodyPost_ret (v := .tuple #[doneV 0 (0) ((m : Int)), .bool true]) (ret_done2 (i := 4) (j := 5) Tryz.results17 R7.out rfl rfl rfl) rfl ?_
  exact ⟨rfl, FIN.out⟩
set_option maxHeartbeats 1000000 in
theorem turn_used {s : Nat → Int} {l : List Vn} {m : Nat} {p : Int} (hm : m < 64) (hm0 : s m = 0) (hms : ∀ i, i < m → s i ≠ 0) (h0 : 1 ≤ p) (h1 : p ≤ 65535) (hl : vlk l p = some EV) : TurnC 1 0 p s l 190 0 true s l := by
  have HMS : Hid (∀ i, i < m → s i ≠ 0) := hms
  clear hms
  intro w B T L M J W v tag now h hJ hW k1 k2 k3 k4 w1 w2 w3 w4
  go_enter Tryz.func17, Tryz.ntmps17
  go_upto_region 1 with fail
  have q1 := bel1 w (.cells #[.int .i64 0, .int .i64 0, .int .i64 0, .int .i64 0, .string ⟨#[]⟩] 43)
  have hR := At.box w #[.int .i64 0, .int .i64 0, .int .i64 0, .int .i64 0, .string ⟨#[]⟩] 43
  have hr_B : B ≠ w.heap.size := by have := h.lt; omega
  have hr_T : T ≠ w.heap.size := by have := h.lt; omega
  have hr_L : L ≠ w.heap.size := by have := h.lt; omega
  have hr_M : M ≠ w.heap.size := by have := h.lt; omega
  have hr_J : J ≠ w.heap.size := by have := hJ.1; omega
  have hr_W : W ≠ w.heap.size := by have := hW.1; omega
  have h := h.later q1
  have hJ := hJ.later q1
  have hW := hW.later q1
  have ht1 := Turn.of_below (S := fun k => k = B ∨ k = T ∨ k = L ∨ k = J) q1
  generalize w.alloc (.cells #[.int .i64 0, .int .i64 0, .int .i64 0, .int .i64 0, .string ⟨#[]⟩] 43) = x1 at *
  obtain ⟨R, hRe⟩ : ∃ x, x = w.heap.size := ⟨_, rfl⟩
  rw [← hRe] at hR hr_B hr_T hr_L hr_M hr_J hr_W ⊢
  have hRle : w.heap.size ≤ R := by omega
  clear q1 hRe
  have hRn : ¬ BS B T L J R := by rintro (e | e | e | e) <;> omega
  have cw : x1.cell? ⟨W, 1, none⟩ = some (.int .i64 1) := (hW.2 1 _ rfl).1
  have cp : x1.cell? ⟨W, 4, none⟩ = some (.int .i64 p) := (hW.2 4 _ rfl).1
  go_wp2_with fail
  refine (listen_used h hJ hm hm0 HMS.out h0 h1 hl).mono ?_
  rintro e x2 ⟨rfl, hb2⟩
  have h9 := h.later hb2
  have J9 := hJ.later hb2
  have R9 := hR.later hb2
  have t9 := ht1.later hb2
  clear h hJ hW hR ht1 hb2 cw cp hl hm0
  obtain ⟨r0, r1, r2, r3, r4, s0, s1, s2, s3, s4⟩ := R9.five
  obtain ⟨R6, tp6⟩ := R9.put5 (.int .i64 0) (.int .i64 190) (.int .i64 0) (.int .i64 0) (.string ⟨#[]⟩)
  have fin : SK (put5 x2 R (.int .i64 0) (.int .i64 190) (.int .i64 0) (.int .i64 0) (.string ⟨#[]⟩)) B T L M s v l ∧ At (put5 x2 R (.int .i64 0) (.int .i64 190) (.int .i64 0) (.int .i64 0) (.string ⟨#[]⟩)) J (lookV B now) ∧ Turn (BS B T L J) w (put5 x2 R (.int .i64 0) (.int .i64 190) (.int .i64 0) (.int .i64 0) (.string ⟨#[]⟩)) :=
    ⟨h9.step tp6 hr_B hr_T hr_L hr_M, J9.turn tp6 hr_J, t9.step tp6 (fun j e => Or.inr (by omega))⟩
  have FIN : Hid _ := fin
  have R7 : Hid _ := R6
  clear fin R6 tp6 h9 J9 R9 t9
  go_wp2
  refine bodyPost_ret (v := .tuple #[doneV 0 (190) (0), .bool true]) (ret_done2 (i := 4) (j := 5) Tryz.results17 R7.out rfl rfl rfl) rfl ?_
  exact ⟨rfl, FIN.out⟩
set_option maxHeartbeats 1000000 in
theorem turn_close {s : Nat → Int} {l : List Vn} {i : Nat} (hi : i < 64) (h0 : 1 ≤ s i) (h1 : s i ≤ 65535) (hl : vlk l (s i) = some EV) : TurnC 7 (i : Int) 0 s l 0 0 true (upS s i 0) (vdel l (s i)) := by
  intro w B T L M J W v tag now h hJ hW k1 k2 k3 k4 w1 w2 w3 w4
  go_enter Tryz.func17, Tryz.ntmps17
  go_upto_region 1 with fail
  have q1 := bel1 w (.cells #[.int .i64 0, .int .i64 0, .int .i64 0, .int .i64 0, .string ⟨#[]⟩] 43)
  have hR := At.box w #[.int .i64 0, .int .i64 0, .int .i64 0, .int .i64 0, .string ⟨#[]⟩] 43
  have hr_B : B ≠ w.heap.size := by have := h.lt; omega
  have hr_T : T ≠ w.heap.size := by have := h.lt; omega
  have hr_L : L ≠ w.heap.size := by have := h.lt; omega
  have hr_M : M ≠ w.heap.size := by have := h.lt; omega
  have hr_J : J ≠ w.heap.size := by have := hJ.1; omega
  have hr_W : W ≠ w.heap.size := by have := hW.1; omega
  have h := h.later q1
  have hJ := hJ.later q1
  have hW := hW.later q1
  have ht1 := Turn.of_below (S := fun k => k = B ∨ k = T ∨ k = L ∨ k = J) q1
  generalize w.alloc (.cells #[.int .i64 0, .int .i64 0, .int .i64 0, .int .i64 0, .string ⟨#[]⟩] 43) = x1 at *
  obtain ⟨R, hRe⟩ : ∃ x, x = w.heap.size := ⟨_, rfl⟩
  rw [← hRe] at hR hr_B hr_T hr_L hr_M hr_J hr_W ⊢
  have hRle : w.heap.size ≤ R := by omega
  clear q1 hRe
  have hRn : ¬ BS B T L J R := by rintro (e | e | e | e) <;> omega
  have cw : x1.cell? ⟨W, 1, none⟩ = some (.int .i64 7) := (hW.2 1 _ rfl).1
  have cf : x1.cell? ⟨W, 2, none⟩ = some (.int .i64 (i : Int)) := (hW.2 2 _ rfl).1
  go_upto_region 6 with fail
  have hdr : Below x1.heap.size x1 x1.drew := (Below.refl _ _).drew
  have q0 : x1.drew.cell? ⟨J, 0, none⟩ = some (PB B) := (hJ.2 0 _ rfl).1
  have q1 : x1.drew.cell? ⟨W, 2, none⟩ = some (.int .i64 (i : Int)) := cf
  have hfd := find_any (h.b.later hdr) i hi
  rw [sV_one (by omega : s i ≠ 0)] at hfd
  refine wp_region_held_drew (S := (fun X => X.cell? ⟨J, 0, none⟩ = some (PB B) ∧ X.cell? ⟨W, 2, none⟩ = some (.int .i64 (i : Int)))) (by kernel_rfl) ?_ (fun hHeld => ?_)
  · first | exact ⟨q0, q1⟩ | assumption
  refine wpAnyH_take (i := 0) (oi := ({ dst := some 29, op := Go.Op.move (Go.Operand.tmp 0), type := 70, pos := "look.go:20", after := #[], guard := none } : Go.Oper)) (v := PB J) rfl (by kernel_rfl) (by kernel_rfl) (by kernel_rfl) (fun _ _ _ h => h) (Or.inl ⟨by rfl, ?_⟩) (by assumption) ?_
  · intro wx hSw
    try dsimp only at hSw
    obtain ⟨u0, u1⟩ := hSw
    go_simp
    try with_reducible rfl
  try simp only [Act.put, List.setIfInBounds_toArray, List.set_cons_zero, List.set_cons_succ]
  refine wpAnyH_take (i := 1) (oi := ({ dst := some 30, op := Go.Op.nilCheck (Go.Operand.tmp 29), type := 0, pos := "look.go:20", after := #[{ on := 0, ground := Go.Ground.data }], guard := none } : Go.Oper)) (v := PB J) rfl (by kernel_rfl) (by kernel_rfl) (by kernel_rfl) (fun _ _ _ h => h) (Or.inl ⟨by rfl, ?_⟩) (by assumption) ?_
  · intro wx hSw
    try dsimp only at hSw
    obtain ⟨u0, u1⟩ := hSw
    go_simp
    try with_reducible rfl
  try simp only [Act.put, List.setIfInBounds_toArray, List.set_cons_zero, List.set_cons_succ]
  refine wpAnyH_take (i := 2) (oi := ({ dst := some 31, op := Go.Op.fieldAddr 72 (Go.Operand.tmp 30) 0, type := 0, pos := "look.go:20", after := #[{ on := 1, ground := Go.Ground.data }], guard := none } : Go.Oper)) (v := .pointer (some ⟨J, 0, none⟩)) rfl (by kernel_rfl) (by kernel_rfl) (by kernel_rfl) (fun _ _ _ h => h) (Or.inl ⟨by rfl, ?_⟩) (by assumption) ?_
  · intro wx hSw
    try dsimp only at hSw
    obtain ⟨u0, u1⟩ := hSw
    go_simp
    try with_reducible rfl
  try simp only [Act.put, List.setIfInBounds_toArray, List.set_cons_zero, List.set_cons_succ]
  refine wpAnyH_take (i := 3) (oi := ({ dst := some 32, op := Go.Op.load 23 (Go.Operand.tmp 31), type := 23, pos := "look.go:20", after := #[{ on := 2, ground := Go.Ground.data }], guard := none } : Go.Oper)) (v := PB B) rfl (by kernel_rfl) (by kernel_rfl) (by kernel_rfl) (fun _ _ _ h => h) (Or.inl ⟨by rfl, ?_⟩) (by assumption) ?_
  · intro wx hSw
    try dsimp only at hSw
    obtain ⟨u0, u1⟩ := hSw
    go_simp
    try with_reducible rfl
  try simp only [Act.put, List.setIfInBounds_toArray, List.set_cons_zero, List.set_cons_succ]
  refine wpAnyH_take (i := 4) (oi := ({ dst := some 33, op := Go.Op.move (Go.Operand.tmp 1), type := 56, pos := "look.go:20", after := #[], guard := none } : Go.Oper)) (v := PB W) rfl (by kernel_rfl) (by kernel_rfl) (by kernel_rfl) (fun _ _ _ h => h) (Or.inl ⟨by rfl, ?_⟩) (by assumption) ?_
  · intro wx hSw
    try dsimp only at hSw
    obtain ⟨u0, u1⟩ := hSw
    go_simp
    try with_reducible rfl
  try simp only [Act.put, List.setIfInBounds_toArray, List.set_cons_zero, List.set_cons_succ]
  refine wpAnyH_take (i := 5) (oi := ({ dst := some 34, op := Go.Op.nilCheck (Go.Operand.tmp 33), type := 0, pos := "look.go:20", after := #[{ on := 4, ground := Go.Ground.data }], guard := none } : Go.Oper)) (v := PB W) rfl (by kernel_rfl) (by kernel_rfl) (by kernel_rfl) (fun _ _ _ h => h) (Or.inl ⟨by rfl, ?_⟩) (by assumption) ?_
  · intro wx hSw
    try dsimp only at hSw
    obtain ⟨u0, u1⟩ := hSw
    go_simp
    try with_reducible rfl
  try simp only [Act.put, List.setIfInBounds_toArray, List.set_cons_zero, List.set_cons_succ]
  refine wpAnyH_take (i := 6) (oi := ({ dst := some 35, op := Go.Op.fieldAddr 60 (Go.Operand.tmp 34) 0, type := 0, pos := "look.go:20", after := #[{ on := 5, ground := Go.Ground.data }], guard := none } : Go.Oper)) (v := .pointer (some ⟨W, 0, none⟩)) rfl (by kernel_rfl) (by kernel_rfl) (by kernel_rfl) (fun _ _ _ h => h) (Or.inl ⟨by rfl, ?_⟩) (by assumption) ?_
  · intro wx hSw
    try dsimp only at hSw
    obtain ⟨u0, u1⟩ := hSw
    go_simp
    try with_reducible rfl
  try simp only [Act.put, List.setIfInBounds_toArray, List.set_cons_zero, List.set_cons_succ]
  refine wpAnyH_take (i := 7) (oi := ({ dst := some 36, op := Go.Op.fieldAddr 41 (Go.Operand.tmp 35) 2, type := 0, pos := "look.go:20", after := #[{ on := 6, ground := Go.Ground.data }], guard := none } : Go.Oper)) (v := .pointer (some ⟨W, 2, none⟩)) rfl (by kernel_rfl) (by kernel_rfl) (by kernel_rfl) (fun _ _ _ h => h) (Or.inl ⟨by rfl, ?_⟩) (by assumption) ?_
  · intro wx hSw
    try dsimp only at hSw
    obtain ⟨u0, u1⟩ := hSw
    go_simp
    try with_reducible rfl
  try simp only [Act.put, List.setIfInBounds_toArray, List.set_cons_zero, List.set_cons_succ]
  refine wpAnyH_take (i := 8) (oi := ({ dst := some 37, op := Go.Op.load 3 (Go.Operand.tmp 36), type := 3, pos := "look.go:20", after := #[{ on := 7, ground := Go.Ground.data }], guard := none } : Go.Oper)) (v := .int .i64 (i : Int)) rfl (by kernel_rfl) (by kernel_rfl) (by kernel_rfl) (fun _ _ _ h => h) (Or.inl ⟨by rfl, ?_⟩) (by assumption) ?_
  · intro wx hSw
    try dsimp only at hSw
    obtain ⟨u0, u1⟩ := hSw
    go_simp
    try with_reducible rfl
  try simp only [Act.put, List.setIfInBounds_toArray, List.set_cons_zero, List.set_cons_succ]
  refine wpAnyH_ready (rs := [9]) (by kernel_rfl) (by simp) ?_
  refine AllReadyH.cons (o := ({ dst := some 38, op := Go.Op.call { callee := Go.Callee.value (Go.Operand.func 23), args := #[Go.Operand.tmp 32, Go.Operand.tmp 37], argTypes := #[23, 3] }, type := 50, pos := "look.go:20", after := #[{ on := 3, ground := Go.Ground.data }, { on := 8, ground := Go.Ground.data }], guard := none } : Go.Oper)) rfl (fun K hK => ?_) AllReadyH.nil
  go_simp
  refine (hfd).mono ?_
  rintro e wk ⟨rfl, rfl⟩
  refine hK.out _ _ hHeld (fun hHeld => ?_)
  clear hK K
  try simp only [Act.put, List.setIfInBounds_toArray, List.set_cons_zero, List.set_cons_succ]
  refine wpAnyH_done (by kernel_rfl) ?_ _
  have h := h.later hdr
  have hJ := hJ.later hdr
  have hW := hW.later hdr
  have hR := hR.later hdr
  have ht1 := ht1.later hdr
  clear cw cf hHeld q0 q1 hfd hdr
  generalize x1.drew = x2 at *
  have ta := ta_t (s i)
  go_upto_region 9 with fail
  have q2 := bel1 x2 (.cells #[.int .i64 (s i)] 82)
  have hb := At.box x2 #[.int .i64 (s i)] 82
  have h := h.later q2
  have hJ := hJ.later q2
  have hW := hW.later q2
  have hR := hR.later q2
  have ht1 := ht1.later q2
  clear q2 ta
  generalize x2.alloc (.cells #[.int .i64 (s i)] 82) = x3 at *
  obtain ⟨bb, hbb⟩ : ∃ x, x = x2.heap.size := ⟨_, rfl⟩
  rw [← hbb] at hb ⊢
  clear hbb
  have cw : x3.cell? ⟨W, 1, none⟩ = some (.int .i64 7) := (hW.2 1 _ rfl).1
  have cb : x3.cell? ⟨bb, 0, none⟩ = some (.int .i64 (s i)) := (hb.2 0 _ rfl).1
  go_wp2_with fail
  refine (close_any (tag := tag) (port := 0) h hi h0 h1 hl hJ hW k1 k2 k3 k4 w1 w2 w3 w4).mono ?_
  rintro e x4 ⟨rfl, h9, J9, -, ht2⟩
  have R9 := hR.turn ht2 hRn
  have t9 := ht1.trans ht2
  clear h hJ hW hR ht1 ht2 cw cb hb
  obtain ⟨r0, r1, r2, r3, r4, s0, s1, s2, s3, s4⟩ := R9.five
  obtain ⟨R6, tp6⟩ := R9.put5 (.int .i64 0) (.int .i64 0) (.int .i64 0) (.int .i64 0) (.string ⟨#[]⟩)
  have fin : SK (put5 x4 R (.int .i64 0) (.int .i64 0) (.int .i64 0) (.int .i64 0) (.string ⟨#[]⟩)) B T L M (upS s i 0) v (vdel l (s i)) ∧ At (put5 x4 R (.int .i64 0) (.int .i64 0) (.int .i64 0) (.int .i64 0) (.string ⟨#[]⟩)) J (lookV B now) ∧ Turn (BS B T L J) w (put5 x4 R (.int .i64 0) (.int .i64 0) (.int .i64 0) (.int .i64 0) (.string ⟨#[]⟩)) :=
    ⟨h9.step tp6 hr_B hr_T hr_L hr_M, J9.turn tp6 hr_J, t9.step tp6 (fun j e => Or.inr (by omega))⟩
  have FIN : Hid _ := fin
  have R7 : Hid _ := R6
  clear fin R6 tp6 h9 J9 R9 t9
  go_wp2
  refine bodyPost_ret (v := .tuple #[doneV 0 (0) (0), .bool true]) (ret_done2 (i := 4) (j := 5) Tryz.results17 R7.out rfl rfl rfl) rfl ?_
  exact ⟨rfl, FIN.out⟩
set_option maxHeartbeats 1000000 in
theorem turn_none {s : Nat → Int} {l : List Vn} {i : Nat} (hi : i < 64) (h0 : s i = 0) : TurnC 7 (i : Int) 0 s l 5 0 true s l := by
  intro w B T L M J W v tag now h hJ hW k1 k2 k3 k4 w1 w2 w3 w4
  go_enter Tryz.func17, Tryz.ntmps17
  go_upto_region 1 with fail
  have q1 := bel1 w (.cells #[.int .i64 0, .int .i64 0, .int .i64 0, .int .i64 0, .string ⟨#[]⟩] 43)
  have hR := At.box w #[.int .i64 0, .int .i64 0, .int .i64 0, .int .i64 0, .string ⟨#[]⟩] 43
  have hr_B : B ≠ w.heap.size := by have := h.lt; omega
  have hr_T : T ≠ w.heap.size := by have := h.lt; omega
  have hr_L : L ≠ w.heap.size := by have := h.lt; omega
  have hr_M : M ≠ w.heap.size := by have := h.lt; omega
  have hr_J : J ≠ w.heap.size := by have := hJ.1; omega
  have hr_W : W ≠ w.heap.size := by have := hW.1; omega
  have h := h.later q1
  have hJ := hJ.later q1
  have hW := hW.later q1
  have ht1 := Turn.of_below (S := fun k => k = B ∨ k = T ∨ k = L ∨ k = J) q1
  generalize w.alloc (.cells #[.int .i64 0, .int .i64 0, .int .i64 0, .int .i64 0, .string ⟨#[]⟩] 43) = x1 at *
  obtain ⟨R, hRe⟩ : ∃ x, x = w.heap.size := ⟨_, rfl⟩
  rw [← hRe] at hR hr_B hr_T hr_L hr_M hr_J hr_W ⊢
  have hRle : w.heap.size ≤ R := by omega
  clear q1 hRe
  have hRn : ¬ BS B T L J R := by rintro (e | e | e | e) <;> omega
  have cw : x1.cell? ⟨W, 1, none⟩ = some (.int .i64 7) := (hW.2 1 _ rfl).1
  have cf : x1.cell? ⟨W, 2, none⟩ = some (.int .i64 (i : Int)) := (hW.2 2 _ rfl).1
  go_upto_region 6 with fail
  have hdr : Below x1.heap.size x1 x1.drew := (Below.refl _ _).drew
  have q0 : x1.drew.cell? ⟨J, 0, none⟩ = some (PB B) := (hJ.2 0 _ rfl).1
  have q1 : x1.drew.cell? ⟨W, 2, none⟩ = some (.int .i64 (i : Int)) := cf
  have hfd := find_any (h.b.later hdr) i hi
  rw [h0, sV_zero] at hfd
  refine wp_region_held_drew (S := (fun X => X.cell? ⟨J, 0, none⟩ = some (PB B) ∧ X.cell? ⟨W, 2, none⟩ = some (.int .i64 (i : Int)))) (by kernel_rfl) ?_ (fun hHeld => ?_)
  · first | exact ⟨q0, q1⟩ | assumption
  refine wpAnyH_take (i := 0) (oi := ({ dst := some 29, op := Go.Op.move (Go.Operand.tmp 0), type := 70, pos := "look.go:20", after := #[], guard := none } : Go.Oper)) (v := PB J) rfl (by kernel_rfl) (by kernel_rfl) (by kernel_rfl) (fun _ _ _ h => h) (Or.inl ⟨by rfl, ?_⟩) (by assumption) ?_
  · intro wx hSw
    try dsimp only at hSw
    obtain ⟨u0, u1⟩ := hSw
    go_simp
    try with_reducible rfl
  try simp only [Act.put, List.setIfInBounds_toArray, List.set_cons_zero, List.set_cons_succ]
  refine wpAnyH_take (i := 1) (oi := ({ dst := some 30, op := Go.Op.nilCheck (Go.Operand.tmp 29), type := 0, pos := "look.go:20", after := #[{ on := 0, ground := Go.Ground.data }], guard := none } : Go.Oper)) (v := PB J) rfl (by kernel_rfl) (by kernel_rfl) (by kernel_rfl) (fun _ _ _ h => h) (Or.inl ⟨by rfl, ?_⟩) (by assumption) ?_
  · intro wx hSw
    try dsimp only at hSw
    obtain ⟨u0, u1⟩ := hSw
    go_simp
    try with_reducible rfl
  try simp only [Act.put, List.setIfInBounds_toArray, List.set_cons_zero, List.set_cons_succ]
  refine wpAnyH_take (i := 2) (oi := ({ dst := some 31, op := Go.Op.fieldAddr 72 (Go.Operand.tmp 30) 0, type := 0, pos := "look.go:20", after := #[{ on := 1, ground := Go.Ground.data }], guard := none } : Go.Oper)) (v := .pointer (some ⟨J, 0, none⟩)) rfl (by kernel_rfl) (by kernel_rfl) (by kernel_rfl) (fun _ _ _ h => h) (Or.inl ⟨by rfl, ?_⟩) (by assumption) ?_
  · intro wx hSw
    try dsimp only at hSw
    obtain ⟨u0, u1⟩ := hSw
    go_simp
    try with_reducible rfl
  try simp only [Act.put, List.setIfInBounds_toArray, List.set_cons_zero, List.set_cons_succ]
  refine wpAnyH_take (i := 3) (oi := ({ dst := some 32, op := Go.Op.load 23 (Go.Operand.tmp 31), type := 23, pos := "look.go:20", after := #[{ on := 2, ground := Go.Ground.data }], guard := none } : Go.Oper)) (v := PB B) rfl (by kernel_rfl) (by kernel_rfl) (by kernel_rfl) (fun _ _ _ h => h) (Or.inl ⟨by rfl, ?_⟩) (by assumption) ?_
  · intro wx hSw
    try dsimp only at hSw
    obtain ⟨u0, u1⟩ := hSw
    go_simp
    try with_reducible rfl
  try simp only [Act.put, List.setIfInBounds_toArray, List.set_cons_zero, List.set_cons_succ]
  refine wpAnyH_take (i := 4) (oi := ({ dst := some 33, op := Go.Op.move (Go.Operand.tmp 1), type := 56, pos := "look.go:20", after := #[], guard := none } : Go.Oper)) (v := PB W) rfl (by kernel_rfl) (by kernel_rfl) (by kernel_rfl) (fun _ _ _ h => h) (Or.inl ⟨by rfl, ?_⟩) (by assumption) ?_
  · intro wx hSw
    try dsimp only at hSw
    obtain ⟨u0, u1⟩ := hSw
    go_simp
    try with_reducible rfl
  try simp only [Act.put, List.setIfInBounds_toArray, List.set_cons_zero, List.set_cons_succ]
  refine wpAnyH_take (i := 5) (oi := ({ dst := some 34, op := Go.Op.nilCheck (Go.Operand.tmp 33), type := 0, pos := "look.go:20", after := #[{ on := 4, ground := Go.Ground.data }], guard := none } : Go.Oper)) (v := PB W) rfl (by kernel_rfl) (by kernel_rfl) (by kernel_rfl) (fun _ _ _ h => h) (Or.inl ⟨by rfl, ?_⟩) (by assumption) ?_
  · intro wx hSw
    try dsimp only at hSw
    obtain ⟨u0, u1⟩ := hSw
    go_simp
    try with_reducible rfl
  try simp only [Act.put, List.setIfInBounds_toArray, List.set_cons_zero, List.set_cons_succ]
  refine wpAnyH_take (i := 6) (oi := ({ dst := some 35, op := Go.Op.fieldAddr 60 (Go.Operand.tmp 34) 0, type := 0, pos := "look.go:20", after := #[{ on := 5, ground := Go.Ground.data }], guard := none } : Go.Oper)) (v := .pointer (some ⟨W, 0, none⟩)) rfl (by kernel_rfl) (by kernel_rfl) (by kernel_rfl) (fun _ _ _ h => h) (Or.inl ⟨by rfl, ?_⟩) (by assumption) ?_
  · intro wx hSw
    try dsimp only at hSw
    obtain ⟨u0, u1⟩ := hSw
    go_simp
    try with_reducible rfl
  try simp only [Act.put, List.setIfInBounds_toArray, List.set_cons_zero, List.set_cons_succ]
  refine wpAnyH_take (i := 7) (oi := ({ dst := some 36, op := Go.Op.fieldAddr 41 (Go.Operand.tmp 35) 2, type := 0, pos := "look.go:20", after := #[{ on := 6, ground := Go.Ground.data }], guard := none } : Go.Oper)) (v := .pointer (some ⟨W, 2, none⟩)) rfl (by kernel_rfl) (by kernel_rfl) (by kernel_rfl) (fun _ _ _ h => h) (Or.inl ⟨by rfl, ?_⟩) (by assumption) ?_
  · intro wx hSw
    try dsimp only at hSw
    obtain ⟨u0, u1⟩ := hSw
    go_simp
    try with_reducible rfl
  try simp only [Act.put, List.setIfInBounds_toArray, List.set_cons_zero, List.set_cons_succ]
  refine wpAnyH_take (i := 8) (oi := ({ dst := some 37, op := Go.Op.load 3 (Go.Operand.tmp 36), type := 3, pos := "look.go:20", after := #[{ on := 7, ground := Go.Ground.data }], guard := none } : Go.Oper)) (v := .int .i64 (i : Int)) rfl (by kernel_rfl) (by kernel_rfl) (by kernel_rfl) (fun _ _ _ h => h) (Or.inl ⟨by rfl, ?_⟩) (by assumption) ?_
  · intro wx hSw
    try dsimp only at hSw
    obtain ⟨u0, u1⟩ := hSw
    go_simp
    try with_reducible rfl
  try simp only [Act.put, List.setIfInBounds_toArray, List.set_cons_zero, List.set_cons_succ]
  refine wpAnyH_ready (rs := [9]) (by kernel_rfl) (by simp) ?_
  refine AllReadyH.cons (o := ({ dst := some 38, op := Go.Op.call { callee := Go.Callee.value (Go.Operand.func 23), args := #[Go.Operand.tmp 32, Go.Operand.tmp 37], argTypes := #[23, 3] }, type := 50, pos := "look.go:20", after := #[{ on := 3, ground := Go.Ground.data }, { on := 8, ground := Go.Ground.data }], guard := none } : Go.Oper)) rfl (fun K hK => ?_) AllReadyH.nil
  go_simp
  refine (hfd).mono ?_
  rintro e wk ⟨rfl, rfl⟩
  refine hK.out _ _ hHeld (fun hHeld => ?_)
  clear hK K
  try simp only [Act.put, List.setIfInBounds_toArray, List.set_cons_zero, List.set_cons_succ]
  refine wpAnyH_done (by kernel_rfl) ?_ _
  have h := h.later hdr
  have hJ := hJ.later hdr
  have hR := hR.later hdr
  have ht1 := ht1.later hdr
  clear cw cf hHeld q0 q1 hfd hdr hW
  generalize x1.drew = x2 at *
  have ta := ta_n
  have ta2 := ta_n2
  go_wp2_with fail
  refine (refused_any 5 x2).mono ?_
  rintro e x3 ⟨rfl, hb2⟩
  have h9 := h.later hb2
  have J9 := hJ.later hb2
  have R9 := hR.later hb2
  have t9 := ht1.later hb2
  clear h hJ hR ht1 hb2 ta ta2 h0
  obtain ⟨r0, r1, r2, r3, r4, s0, s1, s2, s3, s4⟩ := R9.five
  obtain ⟨R6, tp6⟩ := R9.put5 (.int .i64 0) (.int .i64 5) (.int .i64 0) (.int .i64 0) (.string ⟨#[]⟩)
  have fin : SK (put5 x3 R (.int .i64 0) (.int .i64 5) (.int .i64 0) (.int .i64 0) (.string ⟨#[]⟩)) B T L M s v l ∧ At (put5 x3 R (.int .i64 0) (.int .i64 5) (.int .i64 0) (.int .i64 0) (.string ⟨#[]⟩)) J (lookV B now) ∧ Turn (BS B T L J) w (put5 x3 R (.int .i64 0) (.int .i64 5) (.int .i64 0) (.int .i64 0) (.string ⟨#[]⟩)) :=
    ⟨h9.step tp6 hr_B hr_T hr_L hr_M, J9.turn tp6 hr_J, t9.step tp6 (fun j e => Or.inr (by omega))⟩
  have FIN : Hid _ := fin
  have R7 : Hid _ := R6
  clear fin R6 tp6 h9 J9 R9 t9
  go_wp2
  refine bodyPost_ret (v := .tuple #[doneV 0 (5) (0), .bool true]) (ret_done2 (i := 4) (j := 5) Tryz.results17 R7.out rfl rfl rfl) rfl ?_
  exact ⟨rfl, FIN.out⟩
set_option maxHeartbeats 1000000 in
theorem turn_accept {s : Nat → Int} {l : List Vn} {i m : Nat} (hi : i < 64) (h0 : s i ≠ 0) (hm : m < 64) (hm0 : s m = 0) (hms : ∀ i, i < m → s i ≠ 0) : TurnC 2 (i : Int) 0 s l 0 0 false s l := by
  have HMS : Hid (∀ i, i < m → s i ≠ 0) := hms
  clear hms
  intro w B T L M J W v tag now h hJ hW k1 k2 k3 k4 w1 w2 w3 w4
  go_enter Tryz.func17, Tryz.ntmps17
  go_upto_region 1 with fail
  have q1 := bel1 w (.cells #[.int .i64 0, .int .i64 0, .int .i64 0, .int .i64 0, .string ⟨#[]⟩] 43)
  have hR := At.box w #[.int .i64 0, .int .i64 0, .int .i64 0, .int .i64 0, .string ⟨#[]⟩] 43
  have hr_B : B ≠ w.heap.size := by have := h.lt; omega
  have hr_T : T ≠ w.heap.size := by have := h.lt; omega
  have hr_L : L ≠ w.heap.size := by have := h.lt; omega
  have hr_M : M ≠ w.heap.size := by have := h.lt; omega
  have hr_J : J ≠ w.heap.size := by have := hJ.1; omega
  have hr_W : W ≠ w.heap.size := by have := hW.1; omega
  have h := h.later q1
  have hJ := hJ.later q1
  have hW := hW.later q1
  have ht1 := Turn.of_below (S := fun k => k = B ∨ k = T ∨ k = L ∨ k = J) q1
  generalize w.alloc (.cells #[.int .i64 0, .int .i64 0, .int .i64 0, .int .i64 0, .string ⟨#[]⟩] 43) = x1 at *
  obtain ⟨R, hRe⟩ : ∃ x, x = w.heap.size := ⟨_, rfl⟩
  rw [← hRe] at hR hr_B hr_T hr_L hr_M hr_J hr_W ⊢
  have hRle : w.heap.size ≤ R := by omega
  clear q1 hRe
  have hRn : ¬ BS B T L J R := by rintro (e | e | e | e) <;> omega
  have cw : x1.cell? ⟨W, 1, none⟩ = some (.int .i64 2) := (hW.2 1 _ rfl).1
  have cf : x1.cell? ⟨W, 2, none⟩ = some (.int .i64 (i : Int)) := (hW.2 2 _ rfl).1
  go_upto_region 6 with fail
  have hdr : Below x1.heap.size x1 x1.drew := (Below.refl _ _).drew
  have q0 : x1.drew.cell? ⟨J, 0, none⟩ = some (PB B) := (hJ.2 0 _ rfl).1
  have q1 : x1.drew.cell? ⟨W, 2, none⟩ = some (.int .i64 (i : Int)) := cf
  have hfd := find_any (h.b.later hdr) i hi
  rw [sV_one h0] at hfd
  refine wp_region_held_drew (S := (fun X => X.cell? ⟨J, 0, none⟩ = some (PB B) ∧ X.cell? ⟨W, 2, none⟩ = some (.int .i64 (i : Int)))) (by kernel_rfl) ?_ (fun hHeld => ?_)
  · first | exact ⟨q0, q1⟩ | assumption
  refine wpAnyH_take (i := 0) (oi := ({ dst := some 29, op := Go.Op.move (Go.Operand.tmp 0), type := 70, pos := "look.go:20", after := #[], guard := none } : Go.Oper)) (v := PB J) rfl (by kernel_rfl) (by kernel_rfl) (by kernel_rfl) (fun _ _ _ h => h) (Or.inl ⟨by rfl, ?_⟩) (by assumption) ?_
  · intro wx hSw
    try dsimp only at hSw
    obtain ⟨u0, u1⟩ := hSw
    go_simp
    try with_reducible rfl
  try simp only [Act.put, List.setIfInBounds_toArray, List.set_cons_zero, List.set_cons_succ]
  refine wpAnyH_take (i := 1) (oi := ({ dst := some 30, op := Go.Op.nilCheck (Go.Operand.tmp 29), type := 0, pos := "look.go:20", after := #[{ on := 0, ground := Go.Ground.data }], guard := none } : Go.Oper)) (v := PB J) rfl (by kernel_rfl) (by kernel_rfl) (by kernel_rfl) (fun _ _ _ h => h) (Or.inl ⟨by rfl, ?_⟩) (by assumption) ?_
  · intro wx hSw
    try dsimp only at hSw
    obtain ⟨u0, u1⟩ := hSw
    go_simp
    try with_reducible rfl
  try simp only [Act.put, List.setIfInBounds_toArray, List.set_cons_zero, List.set_cons_succ]
  refine wpAnyH_take (i := 2) (oi := ({ dst := some 31, op := Go.Op.fieldAddr 72 (Go.Operand.tmp 30) 0, type := 0, pos := "look.go:20", after := #[{ on := 1, ground := Go.Ground.data }], guard := none } : Go.Oper)) (v := .pointer (some ⟨J, 0, none⟩)) rfl (by kernel_rfl) (by kernel_rfl) (by kernel_rfl) (fun _ _ _ h => h) (Or.inl ⟨by rfl, ?_⟩) (by assumption) ?_
  · intro wx hSw
    try dsimp only at hSw
    obtain ⟨u0, u1⟩ := hSw
    go_simp
    try with_reducible rfl
  try simp only [Act.put, List.setIfInBounds_toArray, List.set_cons_zero, List.set_cons_succ]
  refine wpAnyH_take (i := 3) (oi := ({ dst := some 32, op := Go.Op.load 23 (Go.Operand.tmp 31), type := 23, pos := "look.go:20", after := #[{ on := 2, ground := Go.Ground.data }], guard := none } : Go.Oper)) (v := PB B) rfl (by kernel_rfl) (by kernel_rfl) (by kernel_rfl) (fun _ _ _ h => h) (Or.inl ⟨by rfl, ?_⟩) (by assumption) ?_
  · intro wx hSw
    try dsimp only at hSw
    obtain ⟨u0, u1⟩ := hSw
    go_simp
    try with_reducible rfl
  try simp only [Act.put, List.setIfInBounds_toArray, List.set_cons_zero, List.set_cons_succ]
  refine wpAnyH_take (i := 4) (oi := ({ dst := some 33, op := Go.Op.move (Go.Operand.tmp 1), type := 56, pos := "look.go:20", after := #[], guard := none } : Go.Oper)) (v := PB W) rfl (by kernel_rfl) (by kernel_rfl) (by kernel_rfl) (fun _ _ _ h => h) (Or.inl ⟨by rfl, ?_⟩) (by assumption) ?_
  · intro wx hSw
    try dsimp only at hSw
    obtain ⟨u0, u1⟩ := hSw
    go_simp
    try with_reducible rfl
  try simp only [Act.put, List.setIfInBounds_toArray, List.set_cons_zero, List.set_cons_succ]
  refine wpAnyH_take (i := 5) (oi := ({ dst := some 34, op := Go.Op.nilCheck (Go.Operand.tmp 33), type := 0, pos := "look.go:20", after := #[{ on := 4, ground := Go.Ground.data }], guard := none } : Go.Oper)) (v := PB W) rfl (by kernel_rfl) (by kernel_rfl) (by kernel_rfl) (fun _ _ _ h => h) (Or.inl ⟨by rfl, ?_⟩) (by assumption) ?_
  · intro wx hSw
    try dsimp only at hSw
    obtain ⟨u0, u1⟩ := hSw
    go_simp
    try with_reducible rfl
  try simp only [Act.put, List.setIfInBounds_toArray, List.set_cons_zero, List.set_cons_succ]
  refine wpAnyH_take (i := 6) (oi := ({ dst := some 35, op := Go.Op.fieldAddr 60 (Go.Operand.tmp 34) 0, type := 0, pos := "look.go:20", after := #[{ on := 5, ground := Go.Ground.data }], guard := none } : Go.Oper)) (v := .pointer (some ⟨W, 0, none⟩)) rfl (by kernel_rfl) (by kernel_rfl) (by kernel_rfl) (fun _ _ _ h => h) (Or.inl ⟨by rfl, ?_⟩) (by assumption) ?_
  · intro wx hSw
    try dsimp only at hSw
    obtain ⟨u0, u1⟩ := hSw
    go_simp
    try with_reducible rfl
  try simp only [Act.put, List.setIfInBounds_toArray, List.set_cons_zero, List.set_cons_succ]
  refine wpAnyH_take (i := 7) (oi := ({ dst := some 36, op := Go.Op.fieldAddr 41 (Go.Operand.tmp 35) 2, type := 0, pos := "look.go:20", after := #[{ on := 6, ground := Go.Ground.data }], guard := none } : Go.Oper)) (v := .pointer (some ⟨W, 2, none⟩)) rfl (by kernel_rfl) (by kernel_rfl) (by kernel_rfl) (fun _ _ _ h => h) (Or.inl ⟨by rfl, ?_⟩) (by assumption) ?_
  · intro wx hSw
    try dsimp only at hSw
    obtain ⟨u0, u1⟩ := hSw
    go_simp
    try with_reducible rfl
  try simp only [Act.put, List.setIfInBounds_toArray, List.set_cons_zero, List.set_cons_succ]
  refine wpAnyH_take (i := 8) (oi := ({ dst := some 37, op := Go.Op.load 3 (Go.Operand.tmp 36), type := 3, pos := "look.go:20", after := #[{ on := 7, ground := Go.Ground.data }], guard := none } : Go.Oper)) (v := .int .i64 (i : Int)) rfl (by kernel_rfl) (by kernel_rfl) (by kernel_rfl) (fun _ _ _ h => h) (Or.inl ⟨by rfl, ?_⟩) (by assumption) ?_
  · intro wx hSw
    try dsimp only at hSw
    obtain ⟨u0, u1⟩ := hSw
    go_simp
    try with_reducible rfl
  try simp only [Act.put, List.setIfInBounds_toArray, List.set_cons_zero, List.set_cons_succ]
  refine wpAnyH_ready (rs := [9]) (by kernel_rfl) (by simp) ?_
  refine AllReadyH.cons (o := ({ dst := some 38, op := Go.Op.call { callee := Go.Callee.value (Go.Operand.func 23), args := #[Go.Operand.tmp 32, Go.Operand.tmp 37], argTypes := #[23, 3] }, type := 50, pos := "look.go:20", after := #[{ on := 3, ground := Go.Ground.data }, { on := 8, ground := Go.Ground.data }], guard := none } : Go.Oper)) rfl (fun K hK => ?_) AllReadyH.nil
  go_simp
  refine (hfd).mono ?_
  rintro e wk ⟨rfl, rfl⟩
  refine hK.out _ _ hHeld (fun hHeld => ?_)
  clear hK K
  try simp only [Act.put, List.setIfInBounds_toArray, List.set_cons_zero, List.set_cons_succ]
  refine wpAnyH_done (by kernel_rfl) ?_ _
  have h := h.later hdr
  have hJ := hJ.later hdr
  have hW := hW.later hdr
  have hR := hR.later hdr
  have ht1 := ht1.later hdr
  clear cw cf hHeld q0 q1 hfd hdr
  generalize x1.drew = x2 at *
  have ta := ta_t (s i)
  go_upto_region 9 with fail
  have q2 := bel1 x2 (.cells #[.int .i64 (s i)] 82)
  have hb := At.box x2 #[.int .i64 (s i)] 82
  have h := h.later q2
  have hJ := hJ.later q2
  have hW := hW.later q2
  have hR := hR.later q2
  have ht1 := ht1.later q2
  clear q2 ta
  generalize x2.alloc (.cells #[.int .i64 (s i)] 82) = x3 at *
  obtain ⟨bb, hbb⟩ : ∃ x, x = x2.heap.size := ⟨_, rfl⟩
  rw [← hbb] at hb ⊢
  clear hbb
  have cw : x3.cell? ⟨W, 1, none⟩ = some (.int .i64 2) := (hW.2 1 _ rfl).1
  have cb : x3.cell? ⟨bb, 0, none⟩ = some (.int .i64 (s i)) := (hb.2 0 _ rfl).1
  go_wp2_with fail
  refine (accept_w h hJ hm hm0 HMS.out).mono ?_
  rintro e x4 ⟨rfl, hb2⟩
  have h9 := h.later hb2
  have J9 := hJ.later hb2
  have R9 := hR.later hb2
  have t9 := ht1.later hb2
  clear h hJ hW hR ht1 hb2 cw cb hb h0 hm0
  obtain ⟨r0, r1, r2, r3, r4, s0, s1, s2, s3, s4⟩ := R9.five
  obtain ⟨R6, tp6⟩ := R9.put5 (.int .i64 0) (.int .i64 0) (.int .i64 0) (.int .i64 0) (.string ⟨#[]⟩)
  have fin : SK (put5 x4 R (.int .i64 0) (.int .i64 0) (.int .i64 0) (.int .i64 0) (.string ⟨#[]⟩)) B T L M s v l ∧ At (put5 x4 R (.int .i64 0) (.int .i64 0) (.int .i64 0) (.int .i64 0) (.string ⟨#[]⟩)) J (lookV B now) ∧ Turn (BS B T L J) w (put5 x4 R (.int .i64 0) (.int .i64 0) (.int .i64 0) (.int .i64 0) (.string ⟨#[]⟩)) :=
    ⟨h9.step tp6 hr_B hr_T hr_L hr_M, J9.turn tp6 hr_J, t9.step tp6 (fun j e => Or.inr (by omega))⟩
  have FIN : Hid _ := fin
  have R7 : Hid _ := R6
  clear fin R6 tp6 h9 J9 R9 t9
  go_wp2
  refine bodyPost_ret (v := .tuple #[doneV 0 (0) (0), .bool false]) (ret_done2 (i := 4) (j := 5) Tryz.results17 R7.out rfl rfl rfl) rfl ?_
  exact ⟨rfl, FIN.out⟩
end Go.Proofs.YthbpapgfjmpgaaaGreat
