/- Put. -/
import Derived.Test.YtkclookpdngkoaaVe
namespace Go.Proofs.Ytkclookpdngkoaa.V
open Go.RowKit Go.Maps Go.Lib
set_option maxRecDepth 100000
set_option linter.unusedVariables false
set_option linter.unusedSimpArgs false


def skN (Q : Rq) (at_ : Int) (n : Nat) : Nat := (cutS at_ (n : Int) Q.next ((Q.room - Q.bs.length : Nat) : Int)).toNat
def keN (Q : Rq) (at_ : Int) (n : Nat) : Nat := (cutK at_ (n : Int) Q.next ((Q.room - Q.bs.length : Nat) : Int)).toNat
structure CutIs (Q : Rq) (at_ : Int) (n sk ke : Nat) : Prop where
  s : cutS at_ (n : Int) Q.next ((Q.room - Q.bs.length : Nat) : Int) = (sk : Int)
  k : cutK at_ (n : Int) Q.next ((Q.room - Q.bs.length : Nat) : Int) = (ke : Int)
  le : sk + ke ≤ n
  fits : ke = 0 ∨ offN Q ((at_ + (sk : Int)) % 4294967296) + ke ≤ Q.room - Q.bs.length
  ok : codeOf (cutB at_ (n : Int) Q.next ((Q.room - Q.bs.length : Nat) : Int)) = 0
theorem cut_plain {a t n win : Int} (a0 : 0 ≤ a) (a1 : a ≤ 4294967295) (t0 : 0 ≤ t) (t1 : t ≤ 4294967295) (n0 : 0 ≤ n) (n1 : n ≤ 65536) (w0 : 0 ≤ win) (w1 : win ≤ 65536) :
    cutB a n t win = true ∧ 0 ≤ cutS a n t win ∧ 0 ≤ cutK a n t win ∧ cutS a n t win + cutK a n t win ≤ n ∧ (cutK a n t win = 0 ∨ ((a + cutS a n t win) % 4294967296 - t) % 4294967296 + cutK a n t win ≤ win) := by
  have hB : cutB a n t win = true := by
    unfold cutB numB mostB
    simp only [Bool.and_eq_true, decide_eq_true_eq]
    omega
  refine ⟨hB, ?_⟩
  unfold cutS cutK
  simp only [if_pos hB]
  by_cases h1 : (t - a) % 4294967296 < 2147483648
  · simp only [if_pos h1]
    by_cases h2 : (t - a) % 4294967296 < n
    · simp only [if_pos h2]
      by_cases h3 : n - (t - a) % 4294967296 < win
      · simp only [if_pos h3]; omega
      · simp only [if_neg h3]; omega
    · simp only [if_neg h2]; exact ⟨by omega, by omega, by omega, Or.inl trivial⟩
  · simp only [if_neg h1]
    by_cases h2 : win - (4294967296 - (t - a) % 4294967296) < 0
    · simp only [if_pos h2]; exact ⟨by omega, by omega, by omega, Or.inl trivial⟩
    · simp only [if_neg h2]
      by_cases h3 : n < win - (4294967296 - (t - a) % 4294967296)
      · simp only [if_pos h3]; omega
      · simp only [if_neg h3]; omega
theorem cut_is {Q : Rq} (hf : Q.Fine) {at_ : Int} {n : Nat} (a0 : 0 ≤ at_) (a1 : at_ ≤ 4294967295) (hn : n ≤ 65536) : CutIs Q at_ n (skN Q at_ n) (keN Q at_ n) := by
  have r1 := hf.r1
  obtain ⟨hB, h0, h1, h2, h3⟩ := cut_plain (n := (n : Int)) (win := ((Q.room - Q.bs.length : Nat) : Int)) a0 a1 hf.n0 hf.n1 (by omega) (by omega) (by omega) (by omega)
  have e1 : cutS at_ (n : Int) Q.next ((Q.room - Q.bs.length : Nat) : Int) = (skN Q at_ n : Int) := by unfold skN; omega
  have e2 : cutK at_ (n : Int) Q.next ((Q.room - Q.bs.length : Nat) : Int) = (keN Q at_ n : Int) := by unfold keN; omega
  rw [e1, e2] at h2 h3
  refine ⟨e1, e2, by omega, ?_, by rw [hB]; rfl⟩
  rcases h3 with h3 | h3
  · exact Or.inl (by omega)
  · refine Or.inr ?_
    unfold offN
    omega
/-- The kept bytes, and where they lie. -/
def putS (Q : Rq) (at_ : Int) (s : List UInt8) : List UInt8 := (s.drop (skN Q at_ s.length)).take (keN Q at_ s.length)
def putD (Q : Rq) (at_ : Int) (n : Nat) : Nat := offN Q ((at_ + (skN Q at_ n : Int)) % 4294967296)
def putA (Q : Rq) (at_ : Int) (s : List UInt8) : Nat → Option UInt8 := addAp Q.ap (putD Q at_ s.length) (putS Q at_ s)
theorem putA_win {Q : Rq} (hf : Q.Fine) {at_ : Int} {s : List UInt8} (a0 : 0 ≤ at_) (a1 : at_ ≤ 4294967295) (hn : s.length ≤ 65536) : ∀ d, (putA Q at_ s d).isSome = true → d < Q.room - Q.bs.length := by
  intro d hd
  have hc := cut_is hf a0 a1 hn
  rcases addAp_some hd with h | ⟨h1, h2⟩
  · exact (hf.ok d h).2
  · have hl : (putS Q at_ s).length = keN Q at_ s.length := by unfold putS; rw [List.length_take, List.length_drop]; have := hc.le; omega
    have h3 := hc.fits
    unfold putD at h1 h2
    omega
theorem put_fine {Q : Rq} (hf : Q.Fine) {at_ : Int} {s : List UInt8} (a0 : 0 ≤ at_) (a1 : at_ ≤ 4294967295) (hn : s.length ≤ 65536) {L : List UInt8} (hL : Run (putA Q at_ s) L) : (goQ Q (putA Q at_ s) L).Fine := goQ_fine hf hL (putA_win hf a0 a1 hn)
theorem put_long {w : World} {q : Nat} (at_ : Int) (s : ByteArray) (hs : 65536 < s.size) :
    Calls Try.prog 13 #[PQ q, .int .i64 at_, .string s] w fun e w' => e = .returned (.tuple #[.int .i64 0, .int .i64 1]) ∧ w' = w := by
  go_enter Try.func13, Try.ntmps13
  go_wp2
  go_ret2
  exact ⟨rfl, rfl⟩
theorem put_num {w : World} {A : Bk} {q : Nat} {Q : Rq} (hX : QX w A q Q) (hf : Q.Fine) (at_ : Int) (s : ByteArray) (hs : s.size ≤ 65536) (hb : numB at_ = false) :
    Calls Try.prog 13 #[PQ q, .int .i64 at_, .string s] w fun e w' => e = .returned (.tuple #[.int .i64 0, .int .i64 1]) ∧ Below w.heap.size w w' := by
  have hwin : ∀ W, Below w.heap.size w W → Calls Try.prog 10 #[PQ q] W fun e w' => e = .returned (.int .i64 ((Q.room - Q.bs.length : Nat) : Int)) ∧ Below W.heap.size W w' := fun W hW => window_any (hX.later hW) hf
  have hcB : cutB at_ (s.size : Int) Q.next ((Q.room - Q.bs.length : Nat) : Int) = false := by unfold cutB; rw [hb]; rfl
  have hcut := fun W => cut_any at_ (s.size : Int) Q.next ((Q.room - Q.bs.length : Nat) : Int) W
  rw [hcB] at hcut
  have e1 : cutS at_ (s.size : Int) Q.next ((Q.room - Q.bs.length : Nat) : Int) = 0 := by unfold cutS; rw [hcB]; rfl
  have e2 : cutK at_ (s.size : Int) Q.next ((Q.room - Q.bs.length : Nat) : Int) = 0 := by unfold cutK; rw [hcB]; rfl
  rw [e1, e2, codeOf_false] at hcut
  clear e1 e2 hcB
  obtain ⟨M, v, l, h⟩ := hX
  obtain ⟨⟨c0, c1, c2, c3⟩, -⟩ := h.at4.four
  have hc1 : ∀ W, Below w.heap.size w W → W.cell? ⟨q, 1, none⟩ = some (.int .i64 Q.next) := fun W hW => later hW c1
  clear c0 c1 c2 c3 h hb
  obtain ⟨win, hwi⟩ : ∃ x, x = ((Q.room - Q.bs.length : Nat) : Int) := ⟨_, rfl⟩
  rw [← hwi] at hwin hcut
  clear hwi
  go_enter Try.func13, Try.ntmps13
  go_upto_region 3 with fail
  refine wp_region_held_drew (S := (fun W => Below w.heap.size w W)) (by kernel_rfl) ?_ (fun hHeld => ?_)
  · first | exact (Below.refl _ _).drew | assumption
  refine wpAnyH_take (i := 0) (oi := ({ dst := some 16, op := Go.Op.move (Go.Operand.tmp 1), type := 3, pos := "recvq.go:33", after := #[], guard := none } : Go.Oper)) (v := .int .i64 at_) rfl (by kernel_rfl) (by kernel_rfl) (by kernel_rfl) (fun _ _ _ h => h) (Or.inl ⟨by rfl, ?_⟩) (by assumption) ?_
  · intro wx hSw
    try dsimp only at hSw
    have u1 := hc1 wx hSw
    go_simp
    try with_reducible rfl
  try simp only [Act.put, List.setIfInBounds_toArray, List.set_cons_zero, List.set_cons_succ]
  refine wpAnyH_take (i := 1) (oi := ({ dst := some 17, op := Go.Op.move (Go.Operand.tmp 2), type := 9, pos := "recvq.go:33", after := #[], guard := none } : Go.Oper)) (v := .string s) rfl (by kernel_rfl) (by kernel_rfl) (by kernel_rfl) (fun _ _ _ h => h) (Or.inl ⟨by rfl, ?_⟩) (by assumption) ?_
  · intro wx hSw
    try dsimp only at hSw
    have u1 := hc1 wx hSw
    go_simp
    try with_reducible rfl
  try simp only [Act.put, List.setIfInBounds_toArray, List.set_cons_zero, List.set_cons_succ]
  refine wpAnyH_take (i := 2) (oi := ({ dst := some 18, op := Go.Op.call { callee := Go.Callee.builtin Go.Builtin.len, args := #[Go.Operand.tmp 17], argTypes := #[9] }, type := 3, pos := "recvq.go:33", after := #[{ on := 1, ground := Go.Ground.data }], guard := none } : Go.Oper)) (v := .int .i64 (s.size : Int)) rfl (by kernel_rfl) (by kernel_rfl) (by kernel_rfl) (fun _ _ _ h => h) (Or.inl ⟨by rfl, ?_⟩) (by assumption) ?_
  · intro wx hSw
    try dsimp only at hSw
    have u1 := hc1 wx hSw
    go_simp
    try with_reducible rfl
  try simp only [Act.put, List.setIfInBounds_toArray, List.set_cons_zero, List.set_cons_succ]
  refine wpAnyH_take (i := 3) (oi := ({ dst := some 19, op := Go.Op.move (Go.Operand.tmp 0), type := 28, pos := "recvq.go:33", after := #[], guard := none } : Go.Oper)) (v := .pointer (some ⟨q, 0, none⟩)) rfl (by kernel_rfl) (by kernel_rfl) (by kernel_rfl) (fun _ _ _ h => h) (Or.inl ⟨by rfl, ?_⟩) (by assumption) ?_
  · intro wx hSw
    try dsimp only at hSw
    have u1 := hc1 wx hSw
    go_simp
    try with_reducible rfl
  try simp only [Act.put, List.setIfInBounds_toArray, List.set_cons_zero, List.set_cons_succ]
  refine wpAnyH_take (i := 4) (oi := ({ dst := some 20, op := Go.Op.nilCheck (Go.Operand.tmp 19), type := 0, pos := "recvq.go:33", after := #[{ on := 3, ground := Go.Ground.data }], guard := none } : Go.Oper)) (v := .pointer (some ⟨q, 0, none⟩)) rfl (by kernel_rfl) (by kernel_rfl) (by kernel_rfl) (fun _ _ _ h => h) (Or.inl ⟨by rfl, ?_⟩) (by assumption) ?_
  · intro wx hSw
    try dsimp only at hSw
    have u1 := hc1 wx hSw
    go_simp
    try with_reducible rfl
  try simp only [Act.put, List.setIfInBounds_toArray, List.set_cons_zero, List.set_cons_succ]
  refine wpAnyH_take (i := 5) (oi := ({ dst := some 21, op := Go.Op.fieldAddr 56 (Go.Operand.tmp 20) 1, type := 0, pos := "recvq.go:33", after := #[{ on := 4, ground := Go.Ground.data }], guard := none } : Go.Oper)) (v := .pointer (some ⟨q, 1, none⟩)) rfl (by kernel_rfl) (by kernel_rfl) (by kernel_rfl) (fun _ _ _ h => h) (Or.inl ⟨by rfl, ?_⟩) (by assumption) ?_
  · intro wx hSw
    try dsimp only at hSw
    have u1 := hc1 wx hSw
    go_simp
    try with_reducible rfl
  try simp only [Act.put, List.setIfInBounds_toArray, List.set_cons_zero, List.set_cons_succ]
  refine wpAnyH_take (i := 6) (oi := ({ dst := some 22, op := Go.Op.load 3 (Go.Operand.tmp 21), type := 3, pos := "recvq.go:33", after := #[{ on := 5, ground := Go.Ground.data }], guard := none } : Go.Oper)) (v := .int .i64 Q.next) rfl (by kernel_rfl) (by kernel_rfl) (by kernel_rfl) (fun _ _ _ h => h) (Or.inl ⟨by rfl, ?_⟩) (by assumption) ?_
  · intro wx hSw
    try dsimp only at hSw
    have u1 := hc1 wx hSw
    go_simp
    try with_reducible rfl
  try simp only [Act.put, List.setIfInBounds_toArray, List.set_cons_zero, List.set_cons_succ]
  refine wpAnyH_take (i := 7) (oi := ({ dst := some 23, op := Go.Op.move (Go.Operand.tmp 0), type := 28, pos := "recvq.go:33", after := #[], guard := none } : Go.Oper)) (v := .pointer (some ⟨q, 0, none⟩)) rfl (by kernel_rfl) (by kernel_rfl) (by kernel_rfl) (fun _ _ _ h => h) (Or.inl ⟨by rfl, ?_⟩) (by assumption) ?_
  · intro wx hSw
    try dsimp only at hSw
    have u1 := hc1 wx hSw
    go_simp
    try with_reducible rfl
  try simp only [Act.put, List.setIfInBounds_toArray, List.set_cons_zero, List.set_cons_succ]
  refine wpAnyH_ready (rs := [8]) (by kernel_rfl) (by simp) ?_
  refine AllReadyH.cons (o := ({ dst := some 24, op := Go.Op.call { callee := Go.Callee.value (Go.Operand.func 10), args := #[Go.Operand.tmp 23], argTypes := #[28] }, type := 3, pos := "recvq.go:33", after := #[{ on := 7, ground := Go.Ground.data }], guard := none } : Go.Oper)) rfl (fun K hK => ?_) AllReadyH.nil
  go_simp
  refine (hwin _ hHeld).mono ?_
  rintro e wk ⟨rfl, hbk⟩
  refine hK.out _ _ (bt hHeld hbk) (fun hHeld => ?_)
  clear hK K
  try simp only [Act.put, List.setIfInBounds_toArray, List.set_cons_zero, List.set_cons_succ]
  refine wpAnyH_ready (rs := [9]) (by kernel_rfl) (by simp) ?_
  refine AllReadyH.cons (o := ({ dst := some 25, op := Go.Op.call { callee := Go.Callee.value (Go.Operand.func 24), args := #[Go.Operand.tmp 16, Go.Operand.tmp 18, Go.Operand.tmp 22, Go.Operand.tmp 24], argTypes := #[3, 3, 3, 3] }, type := 63, pos := "recvq.go:33", after := #[{ on := 0, ground := Go.Ground.data }, { on := 2, ground := Go.Ground.data }, { on := 6, ground := Go.Ground.data }, { on := 8, ground := Go.Ground.data }, { on := 8, ground := Go.Ground.chain }], guard := none } : Go.Oper)) rfl (fun K hK => ?_) AllReadyH.nil
  go_simp
  refine (hcut _).mono ?_
  rintro e wk ⟨rfl, rfl⟩
  refine hK.out _ _ hHeld (fun hHeld => ?_)
  clear hK K
  try simp only [Act.put, List.setIfInBounds_toArray, List.set_cons_zero, List.set_cons_succ]
  refine wpAnyH_take (i := 10) (oi := ({ dst := some 15, op := Go.Op.move (Go.Operand.tmp 25), type := 63, pos := "recvq.go:33", after := #[{ on := 9, ground := Go.Ground.data }], guard := none } : Go.Oper)) (v := .tuple #[.int .i64 0, .int .i64 0, .int .i64 1]) rfl (by kernel_rfl) (by kernel_rfl) (by kernel_rfl) (fun _ _ _ h => h) (Or.inl ⟨by rfl, ?_⟩) (by assumption) ?_
  · intro wx hSw
    try dsimp only at hSw
    have u1 := hc1 wx hSw
    go_simp
    try with_reducible rfl
  try simp only [Act.put, List.setIfInBounds_toArray, List.set_cons_zero, List.set_cons_succ]
  refine wpAnyH_take (i := 11) (oi := ({ dst := some 26, op := Go.Op.extract (Go.Operand.tmp 15) 0, type := 3, pos := "recvq.go:33", after := #[{ on := 10, ground := Go.Ground.data }], guard := none } : Go.Oper)) (v := .int .i64 0) rfl (by kernel_rfl) (by kernel_rfl) (by kernel_rfl) (fun _ _ _ h => h) (Or.inl ⟨by rfl, ?_⟩) (by assumption) ?_
  · intro wx hSw
    try dsimp only at hSw
    have u1 := hc1 wx hSw
    go_simp
    try with_reducible rfl
  try simp only [Act.put, List.setIfInBounds_toArray, List.set_cons_zero, List.set_cons_succ]
  refine wpAnyH_take (i := 12) (oi := ({ dst := some 27, op := Go.Op.extract (Go.Operand.tmp 15) 1, type := 3, pos := "recvq.go:33", after := #[{ on := 10, ground := Go.Ground.data }, { on := 14, ground := Go.Ground.gcOnly Go.Departure.lateStores }], guard := none } : Go.Oper)) (v := .int .i64 0) rfl (by kernel_rfl) (by kernel_rfl) (by kernel_rfl) (fun _ _ _ h => h) (Or.inl ⟨by rfl, ?_⟩) (by assumption) ?_
  · intro wx hSw
    try dsimp only at hSw
    have u1 := hc1 wx hSw
    go_simp
    try with_reducible rfl
  try simp only [Act.put, List.setIfInBounds_toArray, List.set_cons_zero, List.set_cons_succ]
  refine wpAnyH_take (i := 13) (oi := ({ dst := some 28, op := Go.Op.extract (Go.Operand.tmp 15) 2, type := 25, pos := "recvq.go:33", after := #[{ on := 10, ground := Go.Ground.data }, { on := 15, ground := Go.Ground.gcOnly Go.Departure.lateStores }], guard := none } : Go.Oper)) (v := .int .i64 1) rfl (by kernel_rfl) (by kernel_rfl) (by kernel_rfl) (fun _ _ _ h => h) (Or.inl ⟨by rfl, ?_⟩) (by assumption) ?_
  · intro wx hSw
    try dsimp only at hSw
    have u1 := hc1 wx hSw
    go_simp
    try with_reducible rfl
  try simp only [Act.put, List.setIfInBounds_toArray, List.set_cons_zero, List.set_cons_succ]
  refine wpAnyH_take (i := 14) (oi := ({ dst := some 8, op := Go.Op.assign (Go.Operand.tmp 26), type := 3, pos := "recvq.go:33", after := #[{ on := 11, ground := Go.Ground.data }, { on := 9, ground := Go.Ground.chain }, { on := 0, ground := Go.Ground.phase }, { on := 1, ground := Go.Ground.phase }, { on := 2, ground := Go.Ground.phase }, { on := 3, ground := Go.Ground.phase }, { on := 4, ground := Go.Ground.phase }, { on := 5, ground := Go.Ground.phase }, { on := 6, ground := Go.Ground.phase }, { on := 7, ground := Go.Ground.phase }, { on := 8, ground := Go.Ground.phase }, { on := 9, ground := Go.Ground.phase }, { on := 10, ground := Go.Ground.phase }, { on := 11, ground := Go.Ground.phase }, { on := 12, ground := Go.Ground.textOnly Go.Departure.lateStores }, { on := 13, ground := Go.Ground.textOnly Go.Departure.lateStores }], guard := none } : Go.Oper)) (v := .int .i64 0) rfl (by kernel_rfl) (by kernel_rfl) (by kernel_rfl) (fun _ _ _ h => h) (Or.inl ⟨by rfl, ?_⟩) (by assumption) ?_
  · intro wx hSw
    try dsimp only at hSw
    have u1 := hc1 wx hSw
    go_simp
    try with_reducible rfl
  try simp only [Act.put, List.setIfInBounds_toArray, List.set_cons_zero, List.set_cons_succ]
  refine wpAnyH_take (i := 15) (oi := ({ dst := some 9, op := Go.Op.assign (Go.Operand.tmp 27), type := 3, pos := "recvq.go:33", after := #[{ on := 12, ground := Go.Ground.data }, { on := 14, ground := Go.Ground.chain }, { on := 0, ground := Go.Ground.phase }, { on := 1, ground := Go.Ground.phase }, { on := 2, ground := Go.Ground.phase }, { on := 3, ground := Go.Ground.phase }, { on := 4, ground := Go.Ground.phase }, { on := 5, ground := Go.Ground.phase }, { on := 6, ground := Go.Ground.phase }, { on := 7, ground := Go.Ground.phase }, { on := 8, ground := Go.Ground.phase }, { on := 9, ground := Go.Ground.phase }, { on := 10, ground := Go.Ground.phase }, { on := 11, ground := Go.Ground.phase }, { on := 12, ground := Go.Ground.phase }, { on := 13, ground := Go.Ground.textOnly Go.Departure.lateStores }, { on := 14, ground := Go.Ground.phase }], guard := none } : Go.Oper)) (v := .int .i64 0) rfl (by kernel_rfl) (by kernel_rfl) (by kernel_rfl) (fun _ _ _ h => h) (Or.inl ⟨by rfl, ?_⟩) (by assumption) ?_
  · intro wx hSw
    try dsimp only at hSw
    have u1 := hc1 wx hSw
    go_simp
    try with_reducible rfl
  try simp only [Act.put, List.setIfInBounds_toArray, List.set_cons_zero, List.set_cons_succ]
  refine wpAnyH_take (i := 16) (oi := ({ dst := some 10, op := Go.Op.assign (Go.Operand.tmp 28), type := 25, pos := "recvq.go:33", after := #[{ on := 13, ground := Go.Ground.data }, { on := 15, ground := Go.Ground.chain }, { on := 0, ground := Go.Ground.phase }, { on := 1, ground := Go.Ground.phase }, { on := 2, ground := Go.Ground.phase }, { on := 3, ground := Go.Ground.phase }, { on := 4, ground := Go.Ground.phase }, { on := 5, ground := Go.Ground.phase }, { on := 6, ground := Go.Ground.phase }, { on := 7, ground := Go.Ground.phase }, { on := 8, ground := Go.Ground.phase }, { on := 9, ground := Go.Ground.phase }, { on := 10, ground := Go.Ground.phase }, { on := 11, ground := Go.Ground.phase }, { on := 12, ground := Go.Ground.phase }, { on := 13, ground := Go.Ground.phase }, { on := 14, ground := Go.Ground.phase }, { on := 15, ground := Go.Ground.phase }], guard := none } : Go.Oper)) (v := .int .i64 1) rfl (by kernel_rfl) (by kernel_rfl) (by kernel_rfl) (fun _ _ _ h => h) (Or.inl ⟨by rfl, ?_⟩) (by assumption) ?_
  · intro wx hSw
    try dsimp only at hSw
    have u1 := hc1 wx hSw
    go_simp
    try with_reducible rfl
  try simp only [Act.put, List.setIfInBounds_toArray, List.set_cons_zero, List.set_cons_succ]
  refine wpAnyH_done (by kernel_rfl) ?_ _
  go_wp2
  go_ret2
  exact ⟨rfl, hHeld⟩
set_option maxHeartbeats 1000000 in
theorem put_t {w : World} {A : Bk} {q : Nat} {Q : Rq} (hX : QX w A q Q) (hf : Q.Fine) (at_ : Int) (s : ByteArray) (hs : s.size ≤ 65536) (a0 : 0 ≤ at_) (a1 : at_ ≤ 4294967295) (L : List UInt8) (hL : Run (putA Q at_ s.data.toList) L) :
    Calls Try.prog 13 #[PQ q, .int .i64 at_, .string s] w fun e w' => e = .returned (.tuple #[.int .i64 (L.length : Int), .int .i64 0]) ∧ ∃ A', QX w' A' q (goQ Q (putA Q at_ s.data.toList) L) ∧ Turn A w w' ∧ Gr w.heap.size A A' := by
  have hsz : s.data.toList.length = s.size := Array.length_toList
  have hwin : ∀ W, Below w.heap.size w W → Calls Try.prog 10 #[PQ q] W fun e w' => e = .returned (.int .i64 ((Q.room - Q.bs.length : Nat) : Int)) ∧ Below W.heap.size W w' := fun W hW => window_any (hX.later hW) hf
  have hfin := (put_fine hf a0 a1 (by omega) hL).ln
  have hfr := hf.r1
  have hc := cut_is hf a0 a1 hs
  have hcut := fun W => cut_any at_ (s.size : Int) Q.next ((Q.room - Q.bs.length : Nat) : Int) W
  rw [hc.s, hc.k, hc.ok] at hcut
  have hle := hc.le
  have hfit := hc.fits
  unfold putA putS putD at hL
  rw [hsz] at hL
  have epA : putA Q at_ s.data.toList = addAp Q.ap (offN Q ((at_ + (skN Q at_ s.size : Int)) % 4294967296)) ((s.data.toList.drop (skN Q at_ s.size)).take (keN Q at_ s.size)) := by unfold putA putS putD; rw [hsz]
  rw [epA] at hfin ⊢
  clear hc epA
  generalize skN Q at_ s.size = sk at *
  generalize keN Q at_ s.size = ke at *
  have hex := strB_extract s sk (sk + ke)
  rw [show sk + ke - sk = ke by omega] at hex
  have hxl : (s.extract sk (sk + ke)).size = ke := by rw [hex, strB_size, List.length_take, List.length_drop]; omega
  have hxd : (s.extract sk (sk + ke)).data.toList = (s.data.toList.drop sk).take ke := by rw [hex]; rfl
  rw [← hxd] at hL hfin ⊢
  have hrec : ∀ W, Below w.heap.size w W → Calls Try.prog 25 #[PQ q, .int .i64 ((at_ + (sk : Int)) % 4294967296), .string (s.extract sk (sk + ke))] W fun e w' => e = .returned (.tuple #[]) ∧ ∃ A', QX w' A' q (goQ Q (addAp Q.ap (offN Q ((at_ + (sk : Int)) % 4294967296)) (s.extract sk (sk + ke)).data.toList) L) ∧ Turn A W w' ∧ Gr W.heap.size A A' := fun W hW => receive_any (hX.later hW) hf _ _ (by omega) (by omega) (by rw [hxl]; exact hfit) L hL
  have hnum := fun W => number_any at_ sk W a0 a1 (by omega)
  obtain ⟨M, v, l, h⟩ := hX
  obtain ⟨⟨c0, c1, c2, c3⟩, -⟩ := h.at4.four
  obtain ⟨av, cv, rfl, -⟩ := h.bo.shape
  have hc1 : ∀ W, Below w.heap.size w W → W.cell? ⟨q, 1, none⟩ = some (.int .i64 Q.next) := fun W hW => later hW c1
  have hc2 : ∀ W, Below w.heap.size w W → W.cell? ⟨q, 2, none⟩ = some (.slice av Q.bs.length cv) := fun W hW => later hW c2
  obtain ⟨win, hwi⟩ : ∃ x, x = ((Q.room - Q.bs.length : Nat) : Int) := ⟨_, rfl⟩
  rw [← hwi] at hwin hcut
  obtain ⟨Q2, hQ2⟩ : ∃ x, x = goQ Q (addAp Q.ap (offN Q ((at_ + (sk : Int)) % 4294967296)) (s.extract sk (sk + ke)).data.toList) L := ⟨_, rfl⟩
  rw [← hQ2] at hrec hfin ⊢
  have hl2 : Q2.bs.length = Q.bs.length + L.length := by rw [hQ2]; show (Q.bs ++ L).length = _; rw [List.length_append]
  have hr2 : Q2.room = Q.room := by rw [hQ2]; rfl
  have hb2 : Q.bs.length + L.length ≤ 65536 := by omega
  have HL2 : Hid (Q2.bs.length = Q.bs.length + L.length) := hl2
  obtain ⟨na, hna⟩ : ∃ x, x = (at_ + (sk : Int)) % 4294967296 := ⟨_, rfl⟩
  rw [← hna] at hrec hnum
  have hx1 : sk ≤ s.size := by omega
  have hx2 : sk + ke ≤ s.size := hle
  have hmn : Value.string (s.extract sk (sk + ke)) = .string (s.extract sk (sk + ke)) := rfl
  obtain ⟨xs, hxs⟩ : ∃ x, x = s.extract sk (sk + ke) := ⟨_, rfl⟩
  have hslice : ∀ W, (Instr.slice 9 (.string s) (some (.int .i64 (sk : Int))) (some (.int .i64 ((sk : Int) + (ke : Int)))) none).run Try.prog W = .ok (.string xs) W := fun W => by
    rw [hxs]
    have h9 : ((sk : Int) + (ke : Int)) = ((sk + ke : Nat) : Int) := by omega
    rw [h9]
    simp [Instr.slice, Instr.sliceBounds, Instr.sliceBound, asIntOf, run_underlying Try.underlying9, Result.andThen]
    rw [if_pos (by omega)]
    dsimp only
    rw [show ((sk : Int) + (ke : Int)).toNat = sk + ke by omega, if_pos (by omega)]
  rw [← hxs] at hrec
  have hwsk : IntKind.i64.wrap ((sk : Int) + (ke : Int)) = (sk : Int) + (ke : Int) := by rw [IntKind.wrap_i64] <;> omega
  clear c0 c1 c2 c3 h hwi hna hQ2 hl2 hL hex hxl hxd hfin hr2 hle hfit hmn hxs
  go_enter Try.func13, Try.ntmps13
  go_upto_region 3 with fail
  refine wp_region_held_drew (S := (fun W => Below w.heap.size w W)) (by kernel_rfl) ?_ (fun hHeld => ?_)
  · first | exact (Below.refl _ _).drew | assumption
  refine wpAnyH_take (i := 0) (oi := ({ dst := some 16, op := Go.Op.move (Go.Operand.tmp 1), type := 3, pos := "recvq.go:33", after := #[], guard := none } : Go.Oper)) (v := .int .i64 at_) rfl (by kernel_rfl) (by kernel_rfl) (by kernel_rfl) (fun _ _ _ h => h) (Or.inl ⟨by rfl, ?_⟩) (by assumption) ?_
  · intro wx hSw
    try dsimp only at hSw
    have u1 := hc1 wx hSw
    go_simp
    try with_reducible rfl
  try simp only [Act.put, List.setIfInBounds_toArray, List.set_cons_zero, List.set_cons_succ]
  refine wpAnyH_take (i := 1) (oi := ({ dst := some 17, op := Go.Op.move (Go.Operand.tmp 2), type := 9, pos := "recvq.go:33", after := #[], guard := none } : Go.Oper)) (v := .string s) rfl (by kernel_rfl) (by kernel_rfl) (by kernel_rfl) (fun _ _ _ h => h) (Or.inl ⟨by rfl, ?_⟩) (by assumption) ?_
  · intro wx hSw
    try dsimp only at hSw
    have u1 := hc1 wx hSw
    go_simp
    try with_reducible rfl
  try simp only [Act.put, List.setIfInBounds_toArray, List.set_cons_zero, List.set_cons_succ]
  refine wpAnyH_take (i := 2) (oi := ({ dst := some 18, op := Go.Op.call { callee := Go.Callee.builtin Go.Builtin.len, args := #[Go.Operand.tmp 17], argTypes := #[9] }, type := 3, pos := "recvq.go:33", after := #[{ on := 1, ground := Go.Ground.data }], guard := none } : Go.Oper)) (v := .int .i64 (s.size : Int)) rfl (by kernel_rfl) (by kernel_rfl) (by kernel_rfl) (fun _ _ _ h => h) (Or.inl ⟨by rfl, ?_⟩) (by assumption) ?_
  · intro wx hSw
    try dsimp only at hSw
    have u1 := hc1 wx hSw
    go_simp
    try with_reducible rfl
  try simp only [Act.put, List.setIfInBounds_toArray, List.set_cons_zero, List.set_cons_succ]
  refine wpAnyH_take (i := 3) (oi := ({ dst := some 19, op := Go.Op.move (Go.Operand.tmp 0), type := 28, pos := "recvq.go:33", after := #[], guard := none } : Go.Oper)) (v := .pointer (some ⟨q, 0, none⟩)) rfl (by kernel_rfl) (by kernel_rfl) (by kernel_rfl) (fun _ _ _ h => h) (Or.inl ⟨by rfl, ?_⟩) (by assumption) ?_
  · intro wx hSw
    try dsimp only at hSw
    have u1 := hc1 wx hSw
    go_simp
    try with_reducible rfl
  try simp only [Act.put, List.setIfInBounds_toArray, List.set_cons_zero, List.set_cons_succ]
  refine wpAnyH_take (i := 4) (oi := ({ dst := some 20, op := Go.Op.nilCheck (Go.Operand.tmp 19), type := 0, pos := "recvq.go:33", after := #[{ on := 3, ground := Go.Ground.data }], guard := none } : Go.Oper)) (v := .pointer (some ⟨q, 0, none⟩)) rfl (by kernel_rfl) (by kernel_rfl) (by kernel_rfl) (fun _ _ _ h => h) (Or.inl ⟨by rfl, ?_⟩) (by assumption) ?_
  · intro wx hSw
    try dsimp only at hSw
    have u1 := hc1 wx hSw
    go_simp
    try with_reducible rfl
  try simp only [Act.put, List.setIfInBounds_toArray, List.set_cons_zero, List.set_cons_succ]
  refine wpAnyH_take (i := 5) (oi := ({ dst := some 21, op := Go.Op.fieldAddr 56 (Go.Operand.tmp 20) 1, type := 0, pos := "recvq.go:33", after := #[{ on := 4, ground := Go.Ground.data }], guard := none } : Go.Oper)) (v := .pointer (some ⟨q, 1, none⟩)) rfl (by kernel_rfl) (by kernel_rfl) (by kernel_rfl) (fun _ _ _ h => h) (Or.inl ⟨by rfl, ?_⟩) (by assumption) ?_
  · intro wx hSw
    try dsimp only at hSw
    have u1 := hc1 wx hSw
    go_simp
    try with_reducible rfl
  try simp only [Act.put, List.setIfInBounds_toArray, List.set_cons_zero, List.set_cons_succ]
  refine wpAnyH_take (i := 6) (oi := ({ dst := some 22, op := Go.Op.load 3 (Go.Operand.tmp 21), type := 3, pos := "recvq.go:33", after := #[{ on := 5, ground := Go.Ground.data }], guard := none } : Go.Oper)) (v := .int .i64 Q.next) rfl (by kernel_rfl) (by kernel_rfl) (by kernel_rfl) (fun _ _ _ h => h) (Or.inl ⟨by rfl, ?_⟩) (by assumption) ?_
  · intro wx hSw
    try dsimp only at hSw
    have u1 := hc1 wx hSw
    go_simp
    try with_reducible rfl
  try simp only [Act.put, List.setIfInBounds_toArray, List.set_cons_zero, List.set_cons_succ]
  refine wpAnyH_take (i := 7) (oi := ({ dst := some 23, op := Go.Op.move (Go.Operand.tmp 0), type := 28, pos := "recvq.go:33", after := #[], guard := none } : Go.Oper)) (v := .pointer (some ⟨q, 0, none⟩)) rfl (by kernel_rfl) (by kernel_rfl) (by kernel_rfl) (fun _ _ _ h => h) (Or.inl ⟨by rfl, ?_⟩) (by assumption) ?_
  · intro wx hSw
    try dsimp only at hSw
    have u1 := hc1 wx hSw
    go_simp
    try with_reducible rfl
  try simp only [Act.put, List.setIfInBounds_toArray, List.set_cons_zero, List.set_cons_succ]
  refine wpAnyH_ready (rs := [8]) (by kernel_rfl) (by simp) ?_
  refine AllReadyH.cons (o := ({ dst := some 24, op := Go.Op.call { callee := Go.Callee.value (Go.Operand.func 10), args := #[Go.Operand.tmp 23], argTypes := #[28] }, type := 3, pos := "recvq.go:33", after := #[{ on := 7, ground := Go.Ground.data }], guard := none } : Go.Oper)) rfl (fun K hK => ?_) AllReadyH.nil
  go_simp
  refine (hwin _ hHeld).mono ?_
  rintro e wk ⟨rfl, hbk⟩
  refine hK.out _ _ (bt hHeld hbk) (fun hHeld => ?_)
  clear hK K
  try simp only [Act.put, List.setIfInBounds_toArray, List.set_cons_zero, List.set_cons_succ]
  refine wpAnyH_ready (rs := [9]) (by kernel_rfl) (by simp) ?_
  refine AllReadyH.cons (o := ({ dst := some 25, op := Go.Op.call { callee := Go.Callee.value (Go.Operand.func 24), args := #[Go.Operand.tmp 16, Go.Operand.tmp 18, Go.Operand.tmp 22, Go.Operand.tmp 24], argTypes := #[3, 3, 3, 3] }, type := 63, pos := "recvq.go:33", after := #[{ on := 0, ground := Go.Ground.data }, { on := 2, ground := Go.Ground.data }, { on := 6, ground := Go.Ground.data }, { on := 8, ground := Go.Ground.data }, { on := 8, ground := Go.Ground.chain }], guard := none } : Go.Oper)) rfl (fun K hK => ?_) AllReadyH.nil
  go_simp
  refine (hcut _).mono ?_
  rintro e wk ⟨rfl, rfl⟩
  refine hK.out _ _ hHeld (fun hHeld => ?_)
  clear hK K
  try simp only [Act.put, List.setIfInBounds_toArray, List.set_cons_zero, List.set_cons_succ]
  refine wpAnyH_take (i := 10) (oi := ({ dst := some 15, op := Go.Op.move (Go.Operand.tmp 25), type := 63, pos := "recvq.go:33", after := #[{ on := 9, ground := Go.Ground.data }], guard := none } : Go.Oper)) (v := .tuple #[.int .i64 (sk : Int), .int .i64 (ke : Int), .int .i64 0]) rfl (by kernel_rfl) (by kernel_rfl) (by kernel_rfl) (fun _ _ _ h => h) (Or.inl ⟨by rfl, ?_⟩) (by assumption) ?_
  · intro wx hSw
    try dsimp only at hSw
    have u1 := hc1 wx hSw
    go_simp
    try with_reducible rfl
  try simp only [Act.put, List.setIfInBounds_toArray, List.set_cons_zero, List.set_cons_succ]
  refine wpAnyH_take (i := 11) (oi := ({ dst := some 26, op := Go.Op.extract (Go.Operand.tmp 15) 0, type := 3, pos := "recvq.go:33", after := #[{ on := 10, ground := Go.Ground.data }], guard := none } : Go.Oper)) (v := .int .i64 (sk : Int)) rfl (by kernel_rfl) (by kernel_rfl) (by kernel_rfl) (fun _ _ _ h => h) (Or.inl ⟨by rfl, ?_⟩) (by assumption) ?_
  · intro wx hSw
    try dsimp only at hSw
    have u1 := hc1 wx hSw
    go_simp
    try with_reducible rfl
  try simp only [Act.put, List.setIfInBounds_toArray, List.set_cons_zero, List.set_cons_succ]
  refine wpAnyH_take (i := 12) (oi := ({ dst := some 27, op := Go.Op.extract (Go.Operand.tmp 15) 1, type := 3, pos := "recvq.go:33", after := #[{ on := 10, ground := Go.Ground.data }, { on := 14, ground := Go.Ground.gcOnly Go.Departure.lateStores }], guard := none } : Go.Oper)) (v := .int .i64 (ke : Int)) rfl (by kernel_rfl) (by kernel_rfl) (by kernel_rfl) (fun _ _ _ h => h) (Or.inl ⟨by rfl, ?_⟩) (by assumption) ?_
  · intro wx hSw
    try dsimp only at hSw
    have u1 := hc1 wx hSw
    go_simp
    try with_reducible rfl
  try simp only [Act.put, List.setIfInBounds_toArray, List.set_cons_zero, List.set_cons_succ]
  refine wpAnyH_take (i := 13) (oi := ({ dst := some 28, op := Go.Op.extract (Go.Operand.tmp 15) 2, type := 25, pos := "recvq.go:33", after := #[{ on := 10, ground := Go.Ground.data }, { on := 15, ground := Go.Ground.gcOnly Go.Departure.lateStores }], guard := none } : Go.Oper)) (v := .int .i64 0) rfl (by kernel_rfl) (by kernel_rfl) (by kernel_rfl) (fun _ _ _ h => h) (Or.inl ⟨by rfl, ?_⟩) (by assumption) ?_
  · intro wx hSw
    try dsimp only at hSw
    have u1 := hc1 wx hSw
    go_simp
    try with_reducible rfl
  try simp only [Act.put, List.setIfInBounds_toArray, List.set_cons_zero, List.set_cons_succ]
  refine wpAnyH_take (i := 14) (oi := ({ dst := some 8, op := Go.Op.assign (Go.Operand.tmp 26), type := 3, pos := "recvq.go:33", after := #[{ on := 11, ground := Go.Ground.data }, { on := 9, ground := Go.Ground.chain }, { on := 0, ground := Go.Ground.phase }, { on := 1, ground := Go.Ground.phase }, { on := 2, ground := Go.Ground.phase }, { on := 3, ground := Go.Ground.phase }, { on := 4, ground := Go.Ground.phase }, { on := 5, ground := Go.Ground.phase }, { on := 6, ground := Go.Ground.phase }, { on := 7, ground := Go.Ground.phase }, { on := 8, ground := Go.Ground.phase }, { on := 9, ground := Go.Ground.phase }, { on := 10, ground := Go.Ground.phase }, { on := 11, ground := Go.Ground.phase }, { on := 12, ground := Go.Ground.textOnly Go.Departure.lateStores }, { on := 13, ground := Go.Ground.textOnly Go.Departure.lateStores }], guard := none } : Go.Oper)) (v := .int .i64 (sk : Int)) rfl (by kernel_rfl) (by kernel_rfl) (by kernel_rfl) (fun _ _ _ h => h) (Or.inl ⟨by rfl, ?_⟩) (by assumption) ?_
  · intro wx hSw
    try dsimp only at hSw
    have u1 := hc1 wx hSw
    go_simp
    try with_reducible rfl
  try simp only [Act.put, List.setIfInBounds_toArray, List.set_cons_zero, List.set_cons_succ]
  refine wpAnyH_take (i := 15) (oi := ({ dst := some 9, op := Go.Op.assign (Go.Operand.tmp 27), type := 3, pos := "recvq.go:33", after := #[{ on := 12, ground := Go.Ground.data }, { on := 14, ground := Go.Ground.chain }, { on := 0, ground := Go.Ground.phase }, { on := 1, ground := Go.Ground.phase }, { on := 2, ground := Go.Ground.phase }, { on := 3, ground := Go.Ground.phase }, { on := 4, ground := Go.Ground.phase }, { on := 5, ground := Go.Ground.phase }, { on := 6, ground := Go.Ground.phase }, { on := 7, ground := Go.Ground.phase }, { on := 8, ground := Go.Ground.phase }, { on := 9, ground := Go.Ground.phase }, { on := 10, ground := Go.Ground.phase }, { on := 11, ground := Go.Ground.phase }, { on := 12, ground := Go.Ground.phase }, { on := 13, ground := Go.Ground.textOnly Go.Departure.lateStores }, { on := 14, ground := Go.Ground.phase }], guard := none } : Go.Oper)) (v := .int .i64 (ke : Int)) rfl (by kernel_rfl) (by kernel_rfl) (by kernel_rfl) (fun _ _ _ h => h) (Or.inl ⟨by rfl, ?_⟩) (by assumption) ?_
  · intro wx hSw
    try dsimp only at hSw
    have u1 := hc1 wx hSw
    go_simp
    try with_reducible rfl
  try simp only [Act.put, List.setIfInBounds_toArray, List.set_cons_zero, List.set_cons_succ]
  refine wpAnyH_take (i := 16) (oi := ({ dst := some 10, op := Go.Op.assign (Go.Operand.tmp 28), type := 25, pos := "recvq.go:33", after := #[{ on := 13, ground := Go.Ground.data }, { on := 15, ground := Go.Ground.chain }, { on := 0, ground := Go.Ground.phase }, { on := 1, ground := Go.Ground.phase }, { on := 2, ground := Go.Ground.phase }, { on := 3, ground := Go.Ground.phase }, { on := 4, ground := Go.Ground.phase }, { on := 5, ground := Go.Ground.phase }, { on := 6, ground := Go.Ground.phase }, { on := 7, ground := Go.Ground.phase }, { on := 8, ground := Go.Ground.phase }, { on := 9, ground := Go.Ground.phase }, { on := 10, ground := Go.Ground.phase }, { on := 11, ground := Go.Ground.phase }, { on := 12, ground := Go.Ground.phase }, { on := 13, ground := Go.Ground.phase }, { on := 14, ground := Go.Ground.phase }, { on := 15, ground := Go.Ground.phase }], guard := none } : Go.Oper)) (v := .int .i64 0) rfl (by kernel_rfl) (by kernel_rfl) (by kernel_rfl) (fun _ _ _ h => h) (Or.inl ⟨by rfl, ?_⟩) (by assumption) ?_
  · intro wx hSw
    try dsimp only at hSw
    have u1 := hc1 wx hSw
    go_simp
    try with_reducible rfl
  try simp only [Act.put, List.setIfInBounds_toArray, List.set_cons_zero, List.set_cons_succ]
  refine wpAnyH_done (by kernel_rfl) ?_ _
  have HB := hHeld
  go_upto_region 7 with fail
  refine wp_region_held_drew (S := (fun _ => True)) (by kernel_rfl) ?_ (fun hHeld => ?_)
  · first | exact trivial | assumption
  refine wpAnyH_take (i := 0) (oi := ({ dst := some 37, op := Go.Op.move (Go.Operand.tmp 0), type := 28, pos := "recvq.go:38", after := #[], guard := none } : Go.Oper)) (v := .pointer (some ⟨q, 0, none⟩)) rfl (by kernel_rfl) (by kernel_rfl) (by kernel_rfl) (fun _ _ _ h => h) (Or.inl ⟨by rfl, ?_⟩) (by assumption) ?_
  · intro wx hSw
    try dsimp only at hSw
    have u9 := hslice wx
    go_simp
    try with_reducible rfl
  try simp only [Act.put, List.setIfInBounds_toArray, List.set_cons_zero, List.set_cons_succ]
  refine wpAnyH_take (i := 1) (oi := ({ dst := some 38, op := Go.Op.move (Go.Operand.tmp 1), type := 3, pos := "recvq.go:38", after := #[], guard := none } : Go.Oper)) (v := .int .i64 at_) rfl (by kernel_rfl) (by kernel_rfl) (by kernel_rfl) (fun _ _ _ h => h) (Or.inl ⟨by rfl, ?_⟩) (by assumption) ?_
  · intro wx hSw
    try dsimp only at hSw
    have u9 := hslice wx
    go_simp
    try with_reducible rfl
  try simp only [Act.put, List.setIfInBounds_toArray, List.set_cons_zero, List.set_cons_succ]
  refine wpAnyH_take (i := 2) (oi := ({ dst := some 39, op := Go.Op.move (Go.Operand.tmp 8), type := 3, pos := "recvq.go:38", after := #[], guard := none } : Go.Oper)) (v := .int .i64 (sk : Int)) rfl (by kernel_rfl) (by kernel_rfl) (by kernel_rfl) (fun _ _ _ h => h) (Or.inl ⟨by rfl, ?_⟩) (by assumption) ?_
  · intro wx hSw
    try dsimp only at hSw
    have u9 := hslice wx
    go_simp
    try with_reducible rfl
  try simp only [Act.put, List.setIfInBounds_toArray, List.set_cons_zero, List.set_cons_succ]
  refine wpAnyH_take (i := 4) (oi := ({ dst := some 41, op := Go.Op.move (Go.Operand.tmp 2), type := 9, pos := "recvq.go:38", after := #[], guard := none } : Go.Oper)) (v := .string s) rfl (by kernel_rfl) (by kernel_rfl) (by kernel_rfl) (fun _ _ _ h => h) (Or.inl ⟨by rfl, ?_⟩) (by assumption) ?_
  · intro wx hSw
    try dsimp only at hSw
    have u9 := hslice wx
    go_simp
    try with_reducible rfl
  try simp only [Act.put, List.setIfInBounds_toArray, List.set_cons_zero, List.set_cons_succ]
  refine wpAnyH_take (i := 5) (oi := ({ dst := some 42, op := Go.Op.move (Go.Operand.tmp 8), type := 3, pos := "recvq.go:38", after := #[], guard := none } : Go.Oper)) (v := .int .i64 (sk : Int)) rfl (by kernel_rfl) (by kernel_rfl) (by kernel_rfl) (fun _ _ _ h => h) (Or.inl ⟨by rfl, ?_⟩) (by assumption) ?_
  · intro wx hSw
    try dsimp only at hSw
    have u9 := hslice wx
    go_simp
    try with_reducible rfl
  try simp only [Act.put, List.setIfInBounds_toArray, List.set_cons_zero, List.set_cons_succ]
  refine wpAnyH_take (i := 6) (oi := ({ dst := some 43, op := Go.Op.move (Go.Operand.tmp 8), type := 3, pos := "recvq.go:38", after := #[], guard := none } : Go.Oper)) (v := .int .i64 (sk : Int)) rfl (by kernel_rfl) (by kernel_rfl) (by kernel_rfl) (fun _ _ _ h => h) (Or.inl ⟨by rfl, ?_⟩) (by assumption) ?_
  · intro wx hSw
    try dsimp only at hSw
    have u9 := hslice wx
    go_simp
    try with_reducible rfl
  try simp only [Act.put, List.setIfInBounds_toArray, List.set_cons_zero, List.set_cons_succ]
  refine wpAnyH_take (i := 7) (oi := ({ dst := some 44, op := Go.Op.move (Go.Operand.tmp 9), type := 3, pos := "recvq.go:38", after := #[], guard := none } : Go.Oper)) (v := .int .i64 (ke : Int)) rfl (by kernel_rfl) (by kernel_rfl) (by kernel_rfl) (fun _ _ _ h => h) (Or.inl ⟨by rfl, ?_⟩) (by assumption) ?_
  · intro wx hSw
    try dsimp only at hSw
    have u9 := hslice wx
    go_simp
    try with_reducible rfl
  try simp only [Act.put, List.setIfInBounds_toArray, List.set_cons_zero, List.set_cons_succ]
  refine wpAnyH_take (i := 8) (oi := ({ dst := some 45, op := Go.Op.binOp Go.BinOp.add 3 (Go.Operand.tmp 43) (Go.Operand.tmp 44) 3, type := 3, pos := "recvq.go:38", after := #[{ on := 6, ground := Go.Ground.data }, { on := 7, ground := Go.Ground.data }], guard := none } : Go.Oper)) (v := .int .i64 ((sk : Int) + (ke : Int))) rfl (by kernel_rfl) (by kernel_rfl) (by kernel_rfl) (fun _ _ _ h => h) (Or.inl ⟨by rfl, ?_⟩) (by assumption) ?_
  · intro wx hSw
    try dsimp only at hSw
    have u9 := hslice wx
    go_simp
    try with_reducible rfl
  try simp only [Act.put, List.setIfInBounds_toArray, List.set_cons_zero, List.set_cons_succ]
  refine wpAnyH_take (i := 9) (oi := ({ dst := some 46, op := Go.Op.slice 9 (Go.Operand.tmp 41) (some (Go.Operand.tmp 42)) (some (Go.Operand.tmp 45)) none, type := 9, pos := "recvq.go:38", after := #[{ on := 4, ground := Go.Ground.data }, { on := 5, ground := Go.Ground.data }, { on := 8, ground := Go.Ground.data }], guard := none } : Go.Oper)) (v := .string xs) rfl (by kernel_rfl) (by kernel_rfl) (by kernel_rfl) (fun _ _ _ h => h) (Or.inl ⟨by rfl, ?_⟩) (by assumption) ?_
  · intro wx hSw
    try dsimp only at hSw
    have u9 := hslice wx
    go_simp
    try with_reducible rfl
  try simp only [Act.put, List.setIfInBounds_toArray, List.set_cons_zero, List.set_cons_succ]
  refine wpAnyH_ready (rs := [3]) (by kernel_rfl) (by simp) ?_
  refine AllReadyH.cons (o := ({ dst := some 40, op := Go.Op.call { callee := Go.Callee.value (Go.Operand.func 23), args := #[Go.Operand.tmp 38, Go.Operand.tmp 39], argTypes := #[3, 3] }, type := 3, pos := "recvq.go:38", after := #[{ on := 1, ground := Go.Ground.data }, { on := 2, ground := Go.Ground.data }], guard := none } : Go.Oper)) rfl (fun K hK => ?_) AllReadyH.nil
  go_simp
  refine (hnum _).mono ?_
  rintro e wk ⟨rfl, rfl⟩
  refine hK.out _ _ trivial (fun hHeld => ?_)
  clear hK K
  try simp only [Act.put, List.setIfInBounds_toArray, List.set_cons_zero, List.set_cons_succ]
  refine wpAnyH_ready (rs := [10]) (by kernel_rfl) (by simp) ?_
  refine AllReadyH.cons (o := ({ dst := some 47, op := Go.Op.call { callee := Go.Callee.value (Go.Operand.func 25), args := #[Go.Operand.tmp 37, Go.Operand.tmp 40, Go.Operand.tmp 46], argTypes := #[28, 3, 9] }, type := 0, pos := "recvq.go:38", after := #[{ on := 0, ground := Go.Ground.data }, { on := 3, ground := Go.Ground.data }, { on := 9, ground := Go.Ground.data }, { on := 3, ground := Go.Ground.chain }], guard := none } : Go.Oper)) rfl (fun K hK => ?_) AllReadyH.nil
  go_simp
  refine (hrec _ HB.drew).mono ?_
  rintro e wq ⟨rfl, HR⟩
  have HR : Hid _ := HR
  refine hK.out _ _ trivial (fun hHeld => ?_)
  clear hK K
  try simp only [Act.put, List.setIfInBounds_toArray, List.set_cons_zero, List.set_cons_succ]
  refine wpAnyH_done (by kernel_rfl) ?_ _
  obtain ⟨A', hX2, ht2, hg2⟩ := HR.out
  obtain ⟨M2, v2, l2, h2⟩ := hX2
  obtain ⟨a2, b2, rfl, -⟩ := h2.bo.shape
  have d2 : wq.cell? ⟨q, 2, none⟩ = some (.slice a2 Q2.bs.length b2) := (h2.at4.2 2 _ rfl).1
  obtain ⟨n2, hn2⟩ : ∃ x, x = Q2.bs.length := ⟨_, rfl⟩
  rw [← hn2] at d2
  have hn2' : (n2 : Int) ≤ 65536 := by rw [hn2, HL2.out]; omega
  have HN : Hid ((n2 : Int) - (Q.bs.length : Int) = (L.length : Int)) := by show _ = _; rw [hn2, HL2.out]; omega
  clear hn2
  go_wp2
  go_ret2
  exact ⟨by rw [HN.out]; rfl, A', ⟨M2, _, l2, h2⟩, (Turn.of_below HB).trans ht2.undrew, fun k hk => (hg2 k hk).imp id (fun e => Nat.le_trans HB.size e)⟩
end Go.Proofs.Ytkclookpdngkoaa.V
