/- halve, mendOn, grow, Late. -/
import Derived.Test.YtkkinnbmlghniaaPa
namespace Go.Proofs.Ytkkinnbmlghniaa
open Go.RowKit
set_option maxRecDepth 100000
set_option linter.unusedVariables false
set_option linter.unusedSimpArgs false


theorem VY.set2 {w : World} {B L G : Nat} {m : Int} {s : Vs} (h : VY w B L G m s) (x : Int) : VY (w.setCell ⟨B, 2, none⟩ (.int .i64 x)) B L G m { s with wi := x } := h.turn (turn_set _ _ _ _) (h.b.set 2 _)
theorem VY.set3 {w : World} {B L G : Nat} {m : Int} {s : Vs} (h : VY w B L G m s) (x : Int) : VY (w.setCell ⟨B, 3, none⟩ (.int .i64 x)) B L G m { s with th := x } := h.turn (turn_set _ _ _ _) (h.b.set 3 _)
theorem VY.set4 {w : World} {B L G : Nat} {m : Int} {s : Vs} (h : VY w B L G m s) (x : Int) : VY (w.setCell ⟨B, 4, none⟩ (.int .i64 x)) B L G m { s with sa := x } := h.turn (turn_set _ _ _ _) (h.b.set 4 _)
theorem VY.set5 {w : World} {B L G : Nat} {m : Int} {s : Vs} (h : VY w B L G m s) (x : Int) : VY (w.setCell ⟨B, 5, none⟩ (.int .i64 x)) B L G m { s with ga := x } := h.turn (turn_set _ _ _ _) (h.b.set 5 _)
theorem VY.set6 {w : World} {B L G : Nat} {m : Int} {s : Vs} (h : VY w B L G m s) (x : Bool) : VY (w.setCell ⟨B, 6, none⟩ (.bool x)) B L G m { s with me := x } := h.turn (turn_set _ _ _ _) (h.b.set 6 _)
theorem VY.set7 {w : World} {B L G : Nat} {m : Int} {s : Vs} (h : VY w B L G m s) (x : Int) : VY (w.setCell ⟨B, 7, none⟩ (.int .i64 x)) B L G m { s with up := x } := h.turn (turn_set _ _ _ _) (h.b.set 7 _)

def halfV (m f : Int) : Int := max (amt f / 2) (2 * m)
theorem halfV_ok {m f : Int} (m0 : 1 ≤ m) (m1 : m ≤ 1460) : 2 * m ≤ halfV m f ∧ halfV m f ≤ 1048576 := by have := amt_ok f; unfold halfV; omega
theorem halve_any {B L G : Nat} {m : Int} {s : Vs} {w : World} (f : Int) (h : VY w B L G m s) (hf : s.Fine m) :
    Calls Try.prog 22 #[.pointer (some ⟨B, 0, none⟩), .int .i64 f] w fun e w' => e = .returned (.tuple #[]) ∧ VY w' B L G m { s with th := halfV m f } ∧ Turn (fun k => k = B) w w' := by
  have hc := amount_any f w.drew
  obtain ⟨a0, a1⟩ := amt_ok f
  have m0 := hf.m0
  have m1 := hf.m1
  have hm : halfV m f = max (amt f / 2) (2 * m) := rfl
  have HM : Hid (halfV m f = max (amt f / 2) (2 * m)) := hm
  have htd : (amt f).tdiv 2 = amt f / 2 := Int.tdiv_eq_ediv_of_nonneg a0
  have hw1 : IntKind.i64.wrap (2 * m) = 2 * m := by rw [IntKind.wrap_i64] <;> omega
  have hw2 : IntKind.i64.wrap (amt f / 2) = amt f / 2 := by rw [IntKind.wrap_i64] <;> omega
  clear hm hf
  generalize amt f = a at *
  have h0 : w.drew.cell? ⟨B, 0, none⟩ = some (.int .i64 m) := (h.b.2 0 _ rfl).1
  have k1 : w.drew.cell? ⟨B, 3, none⟩ = some (.int .i64 s.th) := (h.b.2 3 _ rfl).1
  have k2 : w.drew.frozen? ⟨B, 3, none⟩ = false := (h.b.2 3 _ rfl).2
  go_enter Try.func22, Try.ntmps22
  go_upto_region 0 with fail
  refine wp_region_held_drew (S := (fun W => W.cell? ⟨B, 0, none⟩ = some (.int .i64 m))) (by kernel_rfl) ?_ (fun hHeld => ?_)
  · first | exact h0 | assumption
  refine wpAnyH_take (i := 0) (oi := ({ dst := some 4, op := Go.Op.move (Go.Operand.tmp 0), type := 23, pos := "cong.go:122", after := #[], guard := none } : Go.Oper)) (v := .pointer (some ⟨B, 0, none⟩)) rfl (by kernel_rfl) (by kernel_rfl) (by kernel_rfl) (fun _ _ _ h => h) (Or.inl ⟨by rfl, ?_⟩) (by assumption) ?_
  · intro wx hSw
    try dsimp only at hSw
    have u0 := hSw
    go_simp
    try with_reducible rfl
  try simp only [Act.put, List.setIfInBounds_toArray, List.set_cons_zero, List.set_cons_succ]
  refine wpAnyH_take (i := 1) (oi := ({ dst := some 5, op := Go.Op.move (Go.Operand.tmp 1), type := 3, pos := "cong.go:122", after := #[], guard := none } : Go.Oper)) (v := .int .i64 f) rfl (by kernel_rfl) (by kernel_rfl) (by kernel_rfl) (fun _ _ _ h => h) (Or.inl ⟨by rfl, ?_⟩) (by assumption) ?_
  · intro wx hSw
    try dsimp only at hSw
    have u0 := hSw
    go_simp
    try with_reducible rfl
  try simp only [Act.put, List.setIfInBounds_toArray, List.set_cons_zero, List.set_cons_succ]
  refine wpAnyH_take (i := 4) (oi := ({ dst := some 8, op := Go.Op.move (Go.Operand.tmp 0), type := 23, pos := "cong.go:122", after := #[], guard := none } : Go.Oper)) (v := .pointer (some ⟨B, 0, none⟩)) rfl (by kernel_rfl) (by kernel_rfl) (by kernel_rfl) (fun _ _ _ h => h) (Or.inl ⟨by rfl, ?_⟩) (by assumption) ?_
  · intro wx hSw
    try dsimp only at hSw
    have u0 := hSw
    go_simp
    try with_reducible rfl
  try simp only [Act.put, List.setIfInBounds_toArray, List.set_cons_zero, List.set_cons_succ]
  refine wpAnyH_take (i := 5) (oi := ({ dst := some 9, op := Go.Op.nilCheck (Go.Operand.tmp 8), type := 0, pos := "cong.go:122", after := #[{ on := 4, ground := Go.Ground.data }], guard := none } : Go.Oper)) (v := .pointer (some ⟨B, 0, none⟩)) rfl (by kernel_rfl) (by kernel_rfl) (by kernel_rfl) (fun _ _ _ h => h) (Or.inl ⟨by rfl, ?_⟩) (by assumption) ?_
  · intro wx hSw
    try dsimp only at hSw
    have u0 := hSw
    go_simp
    try with_reducible rfl
  try simp only [Act.put, List.setIfInBounds_toArray, List.set_cons_zero, List.set_cons_succ]
  refine wpAnyH_take (i := 6) (oi := ({ dst := some 10, op := Go.Op.fieldAddr 49 (Go.Operand.tmp 9) 0, type := 0, pos := "cong.go:122", after := #[{ on := 5, ground := Go.Ground.data }], guard := none } : Go.Oper)) (v := .pointer (some ⟨B, 0, none⟩)) rfl (by kernel_rfl) (by kernel_rfl) (by kernel_rfl) (fun _ _ _ h => h) (Or.inl ⟨by rfl, ?_⟩) (by assumption) ?_
  · intro wx hSw
    try dsimp only at hSw
    have u0 := hSw
    go_simp
    try with_reducible rfl
  try simp only [Act.put, List.setIfInBounds_toArray, List.set_cons_zero, List.set_cons_succ]
  refine wpAnyH_take (i := 7) (oi := ({ dst := some 11, op := Go.Op.load 3 (Go.Operand.tmp 10), type := 3, pos := "cong.go:122", after := #[{ on := 6, ground := Go.Ground.data }], guard := none } : Go.Oper)) (v := .int .i64 m) rfl (by kernel_rfl) (by kernel_rfl) (by kernel_rfl) (fun _ _ _ h => h) (Or.inl ⟨by rfl, ?_⟩) (by assumption) ?_
  · intro wx hSw
    try dsimp only at hSw
    have u0 := hSw
    go_simp
    try with_reducible rfl
  try simp only [Act.put, List.setIfInBounds_toArray, List.set_cons_zero, List.set_cons_succ]
  refine wpAnyH_take (i := 8) (oi := ({ dst := some 12, op := Go.Op.binOp Go.BinOp.mul 3 (Go.Operand.const (Go.Value.int Go.IntKind.i64 2)) (Go.Operand.tmp 11) 3, type := 3, pos := "cong.go:122", after := #[{ on := 7, ground := Go.Ground.data }], guard := none } : Go.Oper)) (v := .int .i64 (2 * m)) rfl (by kernel_rfl) (by kernel_rfl) (by kernel_rfl) (fun _ _ _ h => h) (Or.inl ⟨by rfl, ?_⟩) (by assumption) ?_
  · intro wx hSw
    try dsimp only at hSw
    have u0 := hSw
    go_simp
    try with_reducible rfl
  try simp only [Act.put, List.setIfInBounds_toArray, List.set_cons_zero, List.set_cons_succ]
  refine wpAnyH_ready (rs := [2]) (by kernel_rfl) (by simp) ?_
  refine AllReadyH.cons (o := ({ dst := some 6, op := Go.Op.call { callee := Go.Callee.value (Go.Operand.func 24), args := #[Go.Operand.tmp 5], argTypes := #[3] }, type := 3, pos := "cong.go:122", after := #[{ on := 1, ground := Go.Ground.data }], guard := none } : Go.Oper)) rfl (fun K hK => ?_) AllReadyH.nil
  go_simp
  refine (hc).mono ?_
  rintro e wk ⟨rfl, rfl⟩
  refine hK.out _ _ hHeld (fun hHeld => ?_)
  clear hK K
  try simp only [Act.put, List.setIfInBounds_toArray, List.set_cons_zero, List.set_cons_succ]
  refine wpAnyH_take (i := 3) (oi := ({ dst := some 7, op := Go.Op.binOp Go.BinOp.quo 3 (Go.Operand.tmp 6) (Go.Operand.const (Go.Value.int Go.IntKind.i64 2)) 3, type := 3, pos := "cong.go:122", after := #[{ on := 2, ground := Go.Ground.data }], guard := none } : Go.Oper)) (v := .int .i64 (a / 2)) rfl (by kernel_rfl) (by kernel_rfl) (by kernel_rfl) (fun _ _ _ h => h) (Or.inl ⟨by rfl, ?_⟩) (by assumption) ?_
  · intro wx hSw
    try dsimp only at hSw
    have u0 := hSw
    go_simp
    try with_reducible rfl
  try simp only [Act.put, List.setIfInBounds_toArray, List.set_cons_zero, List.set_cons_succ]
  refine wpAnyH_take (i := 9) (oi := ({ dst := some 13, op := Go.Op.call { callee := Go.Callee.builtin Go.Builtin.max, args := #[Go.Operand.tmp 7, Go.Operand.tmp 12], argTypes := #[3, 3] }, type := 3, pos := "cong.go:122", after := #[{ on := 3, ground := Go.Ground.data }, { on := 8, ground := Go.Ground.data }], guard := none } : Go.Oper)) (v := .int .i64 (max (a / 2) (2 * m))) rfl (by kernel_rfl) (by kernel_rfl) (by kernel_rfl) (fun _ _ _ h => h) (Or.inl ⟨by rfl, ?_⟩) (by assumption) ?_
  · intro wx hSw
    try dsimp only at hSw
    have u0 := hSw
    go_simp
    try with_reducible rfl
  try simp only [Act.put, List.setIfInBounds_toArray, List.set_cons_zero, List.set_cons_succ]
  refine wpAnyH_take (i := 10) (oi := ({ dst := some 14, op := Go.Op.nilCheck (Go.Operand.tmp 4), type := 0, pos := "cong.go:122", after := #[{ on := 0, ground := Go.Ground.data }, { on := 0, ground := Go.Ground.phase }, { on := 1, ground := Go.Ground.phase }, { on := 2, ground := Go.Ground.phase }, { on := 3, ground := Go.Ground.phase }, { on := 4, ground := Go.Ground.phase }, { on := 5, ground := Go.Ground.phase }, { on := 6, ground := Go.Ground.phase }, { on := 7, ground := Go.Ground.phase }, { on := 8, ground := Go.Ground.phase }, { on := 9, ground := Go.Ground.phase }], guard := none } : Go.Oper)) (v := .pointer (some ⟨B, 0, none⟩)) rfl (by kernel_rfl) (by kernel_rfl) (by kernel_rfl) (fun _ _ _ h => h) (Or.inl ⟨by rfl, ?_⟩) (by assumption) ?_
  · intro wx hSw
    try dsimp only at hSw
    have u0 := hSw
    go_simp
    try with_reducible rfl
  try simp only [Act.put, List.setIfInBounds_toArray, List.set_cons_zero, List.set_cons_succ]
  refine wpAnyH_take (i := 11) (oi := ({ dst := some 15, op := Go.Op.fieldAddr 49 (Go.Operand.tmp 14) 3, type := 0, pos := "cong.go:122", after := #[{ on := 10, ground := Go.Ground.data }, { on := 0, ground := Go.Ground.phase }, { on := 1, ground := Go.Ground.phase }, { on := 2, ground := Go.Ground.phase }, { on := 3, ground := Go.Ground.phase }, { on := 4, ground := Go.Ground.phase }, { on := 5, ground := Go.Ground.phase }, { on := 6, ground := Go.Ground.phase }, { on := 7, ground := Go.Ground.phase }, { on := 8, ground := Go.Ground.phase }, { on := 9, ground := Go.Ground.phase }], guard := none } : Go.Oper)) (v := .pointer (some ⟨B, 3, none⟩)) rfl (by kernel_rfl) (by kernel_rfl) (by kernel_rfl) (fun _ _ _ h => h) (Or.inl ⟨by rfl, ?_⟩) (by assumption) ?_
  · intro wx hSw
    try dsimp only at hSw
    have u0 := hSw
    go_simp
    try with_reducible rfl
  try simp only [Act.put, List.setIfInBounds_toArray, List.set_cons_zero, List.set_cons_succ]
  refine wpAnyH_ready (rs := [12]) (by kernel_rfl) (by simp) ?_
  refine AllReadyH.cons (o := ({ dst := none, op := Go.Op.store 3 (Go.Operand.tmp 15) (Go.Operand.tmp 13), type := 0, pos := "cong.go:122", after := #[{ on := 11, ground := Go.Ground.data }, { on := 9, ground := Go.Ground.data }, { on := 2, ground := Go.Ground.chain }, { on := 0, ground := Go.Ground.phase }, { on := 1, ground := Go.Ground.phase }, { on := 2, ground := Go.Ground.phase }, { on := 3, ground := Go.Ground.phase }, { on := 4, ground := Go.Ground.phase }, { on := 5, ground := Go.Ground.phase }, { on := 6, ground := Go.Ground.phase }, { on := 7, ground := Go.Ground.phase }, { on := 8, ground := Go.Ground.phase }, { on := 9, ground := Go.Ground.phase }], guard := none } : Go.Oper)) rfl (fun K hK => ?_) AllReadyH.nil
  go_simp
  refine hK.out _ _ ((h.set3 _).b.2 0 _ rfl).1 (fun hHeld => ?_)
  clear hK K
  try simp only [Act.put, List.setIfInBounds_toArray, List.set_cons_zero, List.set_cons_succ]
  refine wpAnyH_done (by kernel_rfl) ?_ _
  go_end0
  rw [HM.out]
  exact ⟨rfl, (h.later (Below.refl _ _).drew).set3 _, ((Turn.refl w).drew).trans (turn_set _ _ _ _)⟩

def mendV (m n wi : Int) : Int := if m ≤ n then max (wi - n) 0 + m else max (wi - n) 0
theorem mend_any {B L G : Nat} {m : Int} {s : Vs} {w : World} (n : Int) (h : VY w B L G m s) (hf : s.Fine m) (n0 : 0 ≤ n) (n1 : n ≤ 1048576) :
    Calls Try.prog 26 #[.pointer (some ⟨B, 0, none⟩), .int .i64 n] w fun e w' => e = .returned (.tuple #[]) ∧ VY w' B L G m { s with wi := bnd m (mendV m n s.wi) } ∧ Turn (fun k => k = B) w w' := by
  have m0 := hf.m0
  have m1 := hf.m1
  have w0 := hf.w0
  have w1 := hf.w1
  obtain ⟨⟨c0, c1, c2, c3, c4, c5, c6, c7⟩, -, -, f2, -⟩ := h.b.eight
  clear c3 c4 c5 c6 c7
  by_cases hn : m ≤ n
  · have hv : mendV m n s.wi = max (s.wi - n) 0 + m := if_pos hn
    have HV : Hid (mendV m n s.wi = max (s.wi - n) 0 + m) := hv
    clear hv
    go_enter Try.func26, Try.ntmps26
    go_wp2_with (go_at_call 28; refine (bound_any h.l h.g).mono ?_; rintro e wk ⟨rfl, rfl⟩)
    go_end0
    rw [HV.out]
    exact ⟨rfl, h.set2 _, turn_set _ _ _ _⟩
  · have hv : mendV m n s.wi = max (s.wi - n) 0 := if_neg hn
    have HV : Hid (mendV m n s.wi = max (s.wi - n) 0) := hv
    clear hv
    go_enter Try.func26, Try.ntmps26
    go_wp2_with (go_at_call 28; refine (bound_any h.l h.g).mono ?_; rintro e wk ⟨rfl, rfl⟩)
    go_end0
    rw [HV.out]
    exact ⟨rfl, h.set2 _, turn_set _ _ _ _⟩
end Go.Proofs.Ytkkinnbmlghniaa
