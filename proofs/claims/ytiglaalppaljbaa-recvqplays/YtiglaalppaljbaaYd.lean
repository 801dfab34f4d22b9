/- The document's Put. -/
import Derived.Test.YtiglaalppaljbaaYc
namespace Go.Proofs.Ytiglaalppaljbaa
open Go.RowKit Go.Maps Go.Lib
set_option maxRecDepth 100000
set_option linter.unusedVariables false
set_option linter.unusedSimpArgs false


theorem here_set {Q : Rq} {x : Nat} {b : UInt8} (hx : x < Q.room) : (hereL Q).set x true = hereL { Q with ap := upd Q.ap x b } := by
  refine List.ext_getElem? fun i => ?_
  rw [List.getElem?_set]
  by_cases hi : i < Q.room
  · rw [hereL_at (Q := { Q with ap := upd Q.ap x b }) hi, hereL_len, hereL_at hi]
    by_cases e : x = i
    · subst e; rw [if_pos rfl, if_pos hi]; simp [upd]
    · rw [if_neg e]; simp [upd, Ne.symm e]
  · rw [List.getElem?_eq_none (l := hereL { Q with ap := upd Q.ap x b }) (by rw [hereL_len]; exact Nat.not_lt.1 hi)]
    rw [if_neg (by omega), List.getElem?_eq_none (by rw [hereL_len]; exact Nat.not_lt.1 hi)]
theorem by_set {Q : Rq} {x : Nat} {b : UInt8} (hx : x < Q.room) : (byL Q).set x b = byL { Q with ap := upd Q.ap x b } := by
  refine List.ext_getElem? fun i => ?_
  rw [List.getElem?_set]
  by_cases hi : i < Q.room
  · rw [byL_at (Q := { Q with ap := upd Q.ap x b }) hi, byL_len, byL_at hi]
    by_cases e : x = i
    · subst e; rw [if_pos rfl, if_pos hi]; simp [upd]
    · rw [if_neg e]; simp [upd, Ne.symm e]
  · rw [List.getElem?_eq_none (l := byL { Q with ap := upd Q.ap x b }) (by rw [byL_len]; exact Nat.not_lt.1 hi)]
    rw [if_neg (by omega), List.getElem?_eq_none (by rw [byL_len]; exact Nat.not_lt.1 hi)]
theorem here_shift {Q : Rq} {ap : Nat → Option UInt8} {L : List UInt8} (hl : L.length ≤ Q.room) (hb : ∀ x, (ap x).isSome = true → x < Q.room) : (hereL { Q with ap := ap }).drop L.length ++ List.replicate L.length false = hereL (goQ Q ap L) := by
  refine List.ext_getElem? fun i => ?_
  have h1 : ((hereL { Q with ap := ap }).drop L.length).length = Q.room - L.length := by rw [List.length_drop, hereL_len]
  have hr : (goQ Q ap L).room = Q.room := rfl
  rw [List.getElem?_append, h1]
  by_cases hi : i < Q.room
  · rw [hereL_at (Q := goQ Q ap L) hi]
    show _ = some (ap (i + L.length)).isSome
    by_cases h2 : i < Q.room - L.length
    · rw [if_pos h2, List.getElem?_drop, hereL_at (Q := { Q with ap := ap }) (show L.length + i < Q.room by omega), Nat.add_comm]
    · rw [if_neg h2, List.getElem?_replicate, if_pos (by omega)]
      cases hq : ap (i + L.length) with
      | none => rfl
      | some b => have := hb (i + L.length) (by rw [hq]; rfl); omega
  · rw [if_neg (by omega), List.getElem?_eq_none (l := hereL (goQ Q ap L)) (by rw [hereL_len]; exact Nat.not_lt.1 hi), List.getElem?_replicate, if_neg (by omega)]
theorem by_shift {Q : Rq} {ap : Nat → Option UInt8} {L : List UInt8} (hl : L.length ≤ Q.room) (hb : ∀ x, (ap x).isSome = true → x < Q.room) : (byL { Q with ap := ap }).drop L.length ++ List.replicate L.length 0 = byL (goQ Q ap L) := by
  refine List.ext_getElem? fun i => ?_
  have h1 : ((byL { Q with ap := ap }).drop L.length).length = Q.room - L.length := by rw [List.length_drop, byL_len]
  have hr : (goQ Q ap L).room = Q.room := rfl
  rw [List.getElem?_append, h1]
  by_cases hi : i < Q.room
  · rw [byL_at (Q := goQ Q ap L) hi]
    show _ = some ((ap (i + L.length)).getD 0)
    by_cases h2 : i < Q.room - L.length
    · rw [if_pos h2, List.getElem?_drop, byL_at (Q := { Q with ap := ap }) (show L.length + i < Q.room by omega), Nat.add_comm]
    · rw [if_neg h2, List.getElem?_replicate, if_pos (by omega)]
      cases hq : ap (i + L.length) with
      | none => rfl
      | some b => have := hb (i + L.length) (by rw [hq]; rfl); omega
  · rw [if_neg (by omega), List.getElem?_eq_none (l := byL (goQ Q ap L)) (by rw [byL_len]; exact Nat.not_lt.1 hi), List.getElem?_replicate, if_neg (by omega)]
theorem by_take {Q : Rq} {ap : Nat → Option UInt8} {L : List UInt8} (hl : L.length ≤ Q.room) (hL : Run ap L) : (byL { Q with ap := ap }).take L.length = L := by
  refine List.ext_getElem? fun i => ?_
  rw [List.getElem?_take]
  by_cases hi : i < L.length
  · rw [if_pos hi, byL_at (Q := { Q with ap := ap }) (show i < Q.room by omega), List.getElem?_eq_getElem hi]
    show some ((ap i).getD 0) = _
    rw [hL.has i _ (List.getElem?_eq_getElem hi)]
    rfl
  · rw [if_neg hi, List.getElem?_eq_none (by omega)]
theorem rput_no {w : World} {r : Nat} (at_ : Int) (s : ByteArray) (h : numB at_ = false ∨ 65536 < s.size) :
    Calls Try.prog 30 #[PQ r, .int .i64 at_, .string s] w fun e w' => e = .returned (.tuple #[.int .i64 0, .int .i64 1]) ∧ w' = w := by
  have hc := rcheck_any at_ w
  cases hn : numB at_ with
  | false =>
    rw [hn, codeOf_false] at hc
    clear h
    go_enter Try.func30, Try.ntmps30
    go_wp2_with fail
    refine hc.mono ?_
    rintro e w' ⟨rfl, rfl⟩
    go_wp2
    go_ret2
    exact ⟨rfl, rfl⟩
  | true =>
    rw [hn, codeOf_true] at hc
    have hs : (65536 : Int) < (s.size : Int) := by rcases h with h | h; rw [hn] at h; cases h; omega
    clear h
    go_enter Try.func30, Try.ntmps30
    go_wp2_with fail
    refine hc.mono ?_
    rintro e w' ⟨rfl, rfl⟩
    go_wp2
    go_ret2
    exact ⟨rfl, rfl⟩
/-- The document's queue while bytes are put: its rows are its own. -/
structure RM (w : World) (base r : Nat) (Q : Rq) (g1 c1 g2 c2 : Nat) : Prop where
  at5 : At w r (ruV Q (.slice (some ⟨g1, 0, none⟩) Q.room c1) (.slice (some ⟨g2, 0, none⟩) Q.room c2))
  o1 : w.ownsRow base 4 1 (.slice (some ⟨g1, 0, none⟩) Q.room c1) Q.room ((hereL Q).map Value.bool)
  o2 : w.ownsRow base 5 1 (.slice (some ⟨g2, 0, none⟩) Q.room c2) Q.room ((byL Q).map byV)
  rb : r < base
theorem RM.ge {w : World} {base r g1 c1 g2 c2 : Nat} {Q : Rq} (h : RM w base r Q g1 c1 g2 c2) : base ≤ g1 ∧ base ≤ g2 ∧ g1 ≠ g2 ∧ g1 < w.heap.size ∧ g2 < w.heap.size :=
  ⟨row_geG h.o1 g1 rfl, row_geG h.o2 g2 rfl, fun e => row_ne h.o1 h.o2 g1 rfl (by rw [e]; rfl), row_lt h.o1 rfl, row_lt h.o2 rfl⟩
theorem RM.c1 {w : World} {base r g1 c1 g2 c2 : Nat} {Q : Rq} (h : RM w base r Q g1 c1 g2 c2) {x : Nat} (hx : x < Q.room) : w.cell? ⟨g1, x, none⟩ = some (.bool (Q.ap x).isSome) ∧ w.frozen? ⟨g1, x, none⟩ = false := by
  constructor
  · have := h.o1.cells (g := g1) rfl x (.bool (Q.ap x).isSome) (by rw [List.getElem?_map, hereL_at hx]; rfl)
    rw [Addr.add_mid] at this
    simpa using this
  · rcases h.o1.2 with ⟨e, -⟩ | ⟨g, cap, cur, e, -, hb, -⟩
    · cases e
    · cases e; simp [World.frozen?, hb]
theorem RM.c2 {w : World} {base r g1 c1 g2 c2 : Nat} {Q : Rq} (h : RM w base r Q g1 c1 g2 c2) {x : Nat} (hx : x < Q.room) : w.cell? ⟨g2, x, none⟩ = some (byV ((Q.ap x).getD 0)) ∧ w.frozen? ⟨g2, x, none⟩ = false := by
  constructor
  · have := h.o2.cells (g := g2) rfl x (byV ((Q.ap x).getD 0)) (by rw [List.getElem?_map, byL_at hx]; rfl)
    rw [Addr.add_mid] at this
    simpa using this
  · rcases h.o2.2 with ⟨e, -⟩ | ⟨g, cap, cur, e, -, hb, -⟩
    · cases e
    · cases e; simp [World.frozen?, hb]
theorem RM.put {w : World} {base r g1 c1 g2 c2 : Nat} {Q : Rq} (h : RM w base r Q g1 c1 g2 c2) {x : Nat} (hx : x < Q.room) (b : UInt8) : RM ((w.setCell ⟨g1, x, none⟩ (.bool true)).setCell ⟨g2, x, none⟩ (byV b)) base r { Q with ap := upd Q.ap x b } g1 c1 g2 c2 ∧ Turn (fun k => base ≤ k) w ((w.setCell ⟨g1, x, none⟩ (.bool true)).setCell ⟨g2, x, none⟩ (byV b)) := by
  obtain ⟨k1, k2, k3, -, -⟩ := h.ge
  have hrb := h.rb
  refine ⟨⟨(h.at5.turn (turn_set w g1 x _) (by omega)).turn (turn_set _ g2 x _) (by omega), ?_, ?_, hrb⟩, ((turn_set w g1 x _).mono (fun k e => by omega)).trans ((turn_set _ g2 x _).mono (fun k e => by omega))⟩
  · have a1 := (World.ownsRow.stored h.o1 x (.bool true)).1
    rw [show ((hereL Q).map Value.bool).set x (.bool true) = ((hereL Q).set x true).map Value.bool by rw [List.map_set], here_set (b := b) hx] at a1
    exact row_turn a1 (turn_set _ g2 x _) (fun k hk e => by cases hk; exact k3 e)
  · have a1 := row_turn h.o2 (turn_set w g1 x (.bool true)) (fun k hk e => by cases hk; exact k3 e.symm)
    have a2 := (World.ownsRow.stored a1 x (byV b)).1
    rw [show ((byL Q).map byV).set x (byV b) = ((byL Q).set x b).map byV by rw [List.map_set], by_set hx] at a2
    exact a2
theorem RM.turn {S : Nat → Prop} {w w' : World} {base r g1 c1 g2 c2 : Nat} {Q : Rq} (h : RM w base r Q g1 c1 g2 c2) (ht : Turn S w w') (h0 : ¬ S r) (h1 : ¬ S g1) (h2 : ¬ S g2) : RM w' base r Q g1 c1 g2 c2 :=
  ⟨h.at5.turn ht h0, row_turn h.o1 ht (fun k hk e => by cases hk; exact h1 e), row_turn h.o2 ht (fun k hk e => by cases hk; exact h2 e), h.rb⟩
set_option maxHeartbeats 4000000 in
theorem rput_t {w : World} {A : Bk} {r : Nat} {Q : Rq} (hX : RX w A r Q) (hf : Q.Fine) (at_ : Int) (s : ByteArray) (hs : s.size ≤ 65536) (a0 : 0 ≤ at_) (a1 : at_ ≤ 4294967295) (L : List UInt8) (hL : Run (putA Q at_ s.data.toList) L) :
    Calls Try.prog 30 #[PQ r, .int .i64 at_, .string s] w fun e w' => e = .returned (.tuple #[.int .i64 (L.length : Int), .int .i64 0]) ∧ ∃ A', RX w' A' r (goQ Q (putA Q at_ s.data.toList) L) ∧ Turn A w w' ∧ Gr w.heap.size A A' := by
  have hsz : s.data.toList.length = s.size := Array.length_toList
  have hwin : ∀ W, Below w.heap.size w W → Calls Try.prog 17 #[PQ r] W fun e w' => e = .returned (.int .i64 ((Q.room - Q.bs.length : Nat) : Int)) ∧ Below W.heap.size W w' := fun W hW => rwindow_any (hX.later hW) hf
  have hfin := (put_fine hf a0 a1 (by omega) hL).ln
  have hpw := putA_win hf a0 a1 (s := s.data.toList) (by omega)
  have hfr := hf.r1
  have hfr0 := hf.r0
  have hc := cut_is hf a0 a1 hs
  have hcut := fun W => rcut_any at_ (s.size : Int) Q.next ((Q.room - Q.bs.length : Nat) : Int) W
  rw [hc.s, hc.k, hc.ok] at hcut
  have hle := hc.le
  have hfit := hc.fits
  have epA : putA Q at_ s.data.toList = addAp Q.ap (offN Q ((at_ + (skN Q at_ s.size : Int)) % 4294967296)) ((s.data.toList.drop (skN Q at_ s.size)).take (keN Q at_ s.size)) := by unfold putA putS putD; rw [hsz]
  rw [epA] at hfin hpw hL ⊢
  clear hc epA
  generalize skN Q at_ s.size = sk at *
  generalize keN Q at_ s.size = ke at *
  have hchk := rcheck_any at_ w
  rw [show numB at_ = true from decide_eq_true ⟨a0, a1⟩, codeOf_true] at hchk
  have hmod := fun W => mod_any (at_ + (sk : Int)) W
  have hn0 := hf.n0
  have hn1 := hf.n1
  have hdst := fun W => rdist_ok Q.next ((at_ + (sk : Int)) % 4294967296) W hn0 hn1 (by omega) (by omega)
  obtain ⟨d, hd⟩ : ∃ x, x = offN Q ((at_ + (sk : Int)) % 4294967296) := ⟨_, rfl⟩
  rw [show ((at_ + (sk : Int)) % 4294967296 - Q.next) % 4294967296 = (d : Int) by rw [hd]; unfold offN; omega] at hdst
  rw [← hd] at hfit hfin hpw hL ⊢
  obtain ⟨S', hS'⟩ : ∃ x, x = (s.data.toList.drop sk).take ke := ⟨_, rfl⟩
  have hSl : S'.length = ke := by rw [hS', List.length_take, List.length_drop]; omega
  have hSat : ∀ i, i < ke → ∃ b, S'[i]? = some b ∧ s.data.toList[sk + i]? = some b := fun i hi => by
    obtain ⟨b, hb⟩ : ∃ b, s.data.toList[sk + i]? = some b := ⟨_, List.getElem?_eq_getElem (by omega)⟩
    exact ⟨b, by rw [hS', List.getElem?_take, if_pos hi, List.getElem?_drop, hb], hb⟩
  rw [← hS'] at hfin hpw hL ⊢
  have hwsk : IntKind.i64.wrap (at_ + (sk : Int)) = at_ + (sk : Int) := by rw [IntKind.wrap_i64] <;> omega
  obtain ⟨na, hna⟩ : ∃ x, x = (at_ + (sk : Int)) % 4294967296 := ⟨_, rfl⟩
  rw [← hna] at hmod hdst
  obtain ⟨win, hwi⟩ : ∃ x, x = ((Q.room - Q.bs.length : Nat) : Int) := ⟨_, rfl⟩
  rw [← hwi] at hwin hcut
  have HL : Hid (Run (addAp Q.ap d S') L) := hL
  have HPW : Hid (∀ x, (addAp Q.ap d S' x).isSome = true → x < Q.room) := fun x hx => by have := hpw x hx; omega
  have hLr : L.length ≤ Q.room := by
    have h1 : (Q.bs ++ L).length ≤ Q.room := hfin
    rw [List.length_append] at h1; omega
  have HBL : Hid (Q.bs.length + L.length ≤ Q.room) := by
    have h1 : (Q.bs ++ L).length ≤ Q.room := hfin
    rw [List.length_append] at h1; exact h1
  obtain ⟨vh, vb, h⟩ := hX
  have hrw : r < w.heap.size := h.at5.1
  obtain ⟨⟨e0, e1, e2, e3, e4⟩, -⟩ := h.at5.five
  have hc0 : ∀ W, Below w.heap.size w W → W.cell? ⟨r, 0, none⟩ = some (.int .i64 Q.next) := fun W hW => later hW e0
  clear e0 e1 e2 e3 e4 hd hS' hna hwi hL hpw hfin
  go_enter Try.func30, Try.ntmps30
  go_wp2_with fail
  refine hchk.mono ?_
  rintro e w1 ⟨rfl, hw1⟩
  subst hw1
  obtain ⟨w, hw0⟩ : ∃ x, x = w1 := ⟨w1, rfl⟩
  subst hw0
  go_upto_region 3 with fail
  refine wp_region_held_drew (S := (fun W => Below w.heap.size w W)) (by kernel_rfl) ?_ (fun hHeld => ?_)
  · first | exact (Below.refl _ _).drew | assumption
  refine wpAnyH_take (i := 0) (oi := ({ dst := some 24, op := Go.Op.move (Go.Operand.tmp 1), type := 3, pos := "ref.go:48", after := #[], guard := none } : Go.Oper)) (v := .int .i64 at_) rfl (by kernel_rfl) (by kernel_rfl) (by kernel_rfl) (fun _ _ _ h => h) (Or.inl ⟨by rfl, ?_⟩) (by assumption) ?_
  · intro wx hSw
    try dsimp only at hSw
    have u0 := hc0 wx hSw
    go_simp
    try with_reducible rfl
  try simp only [Act.put, List.setIfInBounds_toArray, List.set_cons_zero, List.set_cons_succ]
  refine wpAnyH_take (i := 1) (oi := ({ dst := some 25, op := Go.Op.move (Go.Operand.tmp 2), type := 9, pos := "ref.go:48", after := #[], guard := none } : Go.Oper)) (v := .string s) rfl (by kernel_rfl) (by kernel_rfl) (by kernel_rfl) (fun _ _ _ h => h) (Or.inl ⟨by rfl, ?_⟩) (by assumption) ?_
  · intro wx hSw
    try dsimp only at hSw
    have u0 := hc0 wx hSw
    go_simp
    try with_reducible rfl
  try simp only [Act.put, List.setIfInBounds_toArray, List.set_cons_zero, List.set_cons_succ]
  refine wpAnyH_take (i := 2) (oi := ({ dst := some 26, op := Go.Op.call { callee := Go.Callee.builtin Go.Builtin.len, args := #[Go.Operand.tmp 25], argTypes := #[9] }, type := 3, pos := "ref.go:48", after := #[{ on := 1, ground := Go.Ground.data }], guard := none } : Go.Oper)) (v := .int .i64 (s.size : Int)) rfl (by kernel_rfl) (by kernel_rfl) (by kernel_rfl) (fun _ _ _ h => h) (Or.inl ⟨by rfl, ?_⟩) (by assumption) ?_
  · intro wx hSw
    try dsimp only at hSw
    have u0 := hc0 wx hSw
    go_simp
    try with_reducible rfl
  try simp only [Act.put, List.setIfInBounds_toArray, List.set_cons_zero, List.set_cons_succ]
  refine wpAnyH_take (i := 3) (oi := ({ dst := some 27, op := Go.Op.move (Go.Operand.tmp 0), type := 28, pos := "ref.go:48", after := #[], guard := none } : Go.Oper)) (v := .pointer (some ⟨r, 0, none⟩)) rfl (by kernel_rfl) (by kernel_rfl) (by kernel_rfl) (fun _ _ _ h => h) (Or.inl ⟨by rfl, ?_⟩) (by assumption) ?_
  · intro wx hSw
    try dsimp only at hSw
    have u0 := hc0 wx hSw
    go_simp
    try with_reducible rfl
  try simp only [Act.put, List.setIfInBounds_toArray, List.set_cons_zero, List.set_cons_succ]
  refine wpAnyH_take (i := 4) (oi := ({ dst := some 28, op := Go.Op.nilCheck (Go.Operand.tmp 27), type := 0, pos := "ref.go:48", after := #[{ on := 3, ground := Go.Ground.data }], guard := none } : Go.Oper)) (v := .pointer (some ⟨r, 0, none⟩)) rfl (by kernel_rfl) (by kernel_rfl) (by kernel_rfl) (fun _ _ _ h => h) (Or.inl ⟨by rfl, ?_⟩) (by assumption) ?_
  · intro wx hSw
    try dsimp only at hSw
    have u0 := hc0 wx hSw
    go_simp
    try with_reducible rfl
  try simp only [Act.put, List.setIfInBounds_toArray, List.set_cons_zero, List.set_cons_succ]
  refine wpAnyH_take (i := 5) (oi := ({ dst := some 29, op := Go.Op.fieldAddr 41 (Go.Operand.tmp 28) 0, type := 0, pos := "ref.go:48", after := #[{ on := 4, ground := Go.Ground.data }], guard := none } : Go.Oper)) (v := .pointer (some ⟨r, 0, none⟩)) rfl (by kernel_rfl) (by kernel_rfl) (by kernel_rfl) (fun _ _ _ h => h) (Or.inl ⟨by rfl, ?_⟩) (by assumption) ?_
  · intro wx hSw
    try dsimp only at hSw
    have u0 := hc0 wx hSw
    go_simp
    try with_reducible rfl
  try simp only [Act.put, List.setIfInBounds_toArray, List.set_cons_zero, List.set_cons_succ]
  refine wpAnyH_take (i := 6) (oi := ({ dst := some 30, op := Go.Op.load 3 (Go.Operand.tmp 29), type := 3, pos := "ref.go:48", after := #[{ on := 5, ground := Go.Ground.data }], guard := none } : Go.Oper)) (v := .int .i64 Q.next) rfl (by kernel_rfl) (by kernel_rfl) (by kernel_rfl) (fun _ _ _ h => h) (Or.inl ⟨by rfl, ?_⟩) (by assumption) ?_
  · intro wx hSw
    try dsimp only at hSw
    have u0 := hc0 wx hSw
    go_simp
    try with_reducible rfl
  try simp only [Act.put, List.setIfInBounds_toArray, List.set_cons_zero, List.set_cons_succ]
  refine wpAnyH_take (i := 7) (oi := ({ dst := some 31, op := Go.Op.move (Go.Operand.tmp 0), type := 28, pos := "ref.go:48", after := #[], guard := none } : Go.Oper)) (v := .pointer (some ⟨r, 0, none⟩)) rfl (by kernel_rfl) (by kernel_rfl) (by kernel_rfl) (fun _ _ _ h => h) (Or.inl ⟨by rfl, ?_⟩) (by assumption) ?_
  · intro wx hSw
    try dsimp only at hSw
    have u0 := hc0 wx hSw
    go_simp
    try with_reducible rfl
  try simp only [Act.put, List.setIfInBounds_toArray, List.set_cons_zero, List.set_cons_succ]
  refine wpAnyH_ready (rs := [8]) (by kernel_rfl) (by simp) ?_
  refine AllReadyH.cons (o := ({ dst := some 32, op := Go.Op.call { callee := Go.Callee.value (Go.Operand.func 17), args := #[Go.Operand.tmp 31], argTypes := #[28] }, type := 3, pos := "ref.go:48", after := #[{ on := 7, ground := Go.Ground.data }], guard := none } : Go.Oper)) rfl (fun K hK => ?_) AllReadyH.nil
  go_simp
  refine (hwin _ hHeld).mono ?_
  rintro e wk ⟨rfl, hbk⟩
  refine hK.out _ _ (bt hHeld hbk) (fun hHeld => ?_)
  clear hK K
  try simp only [Act.put, List.setIfInBounds_toArray, List.set_cons_zero, List.set_cons_succ]
  refine wpAnyH_ready (rs := [9]) (by kernel_rfl) (by simp) ?_
  refine AllReadyH.cons (o := ({ dst := some 33, op := Go.Op.call { callee := Go.Callee.value (Go.Operand.func 42), args := #[Go.Operand.tmp 24, Go.Operand.tmp 26, Go.Operand.tmp 30, Go.Operand.tmp 32], argTypes := #[3, 3, 3, 3] }, type := 65, pos := "ref.go:48", after := #[{ on := 0, ground := Go.Ground.data }, { on := 2, ground := Go.Ground.data }, { on := 6, ground := Go.Ground.data }, { on := 8, ground := Go.Ground.data }, { on := 8, ground := Go.Ground.chain }], guard := none } : Go.Oper)) rfl (fun K hK => ?_) AllReadyH.nil
  go_simp
  refine (hcut _).mono ?_
  rintro e wz ⟨rfl, hwz⟩
  subst hwz
  obtain ⟨wk, hwk⟩ : ∃ x, x = wz := ⟨wz, rfl⟩
  subst hwk
  refine hK.out _ _ hHeld (fun hHeld => ?_)
  clear hK K
  try simp only [Act.put, List.setIfInBounds_toArray, List.set_cons_zero, List.set_cons_succ]
  refine wpAnyH_take (i := 10) (oi := ({ dst := some 23, op := Go.Op.move (Go.Operand.tmp 33), type := 65, pos := "ref.go:48", after := #[{ on := 9, ground := Go.Ground.data }], guard := none } : Go.Oper)) (v := .tuple #[.int .i64 (sk : Int), .int .i64 (ke : Int), .int .i64 0]) rfl (by kernel_rfl) (by kernel_rfl) (by kernel_rfl) (fun _ _ _ h => h) (Or.inl ⟨by rfl, ?_⟩) (by assumption) ?_
  · intro wx hSw
    try dsimp only at hSw
    have u0 := hc0 wx hSw
    go_simp
    try with_reducible rfl
  try simp only [Act.put, List.setIfInBounds_toArray, List.set_cons_zero, List.set_cons_succ]
  refine wpAnyH_take (i := 11) (oi := ({ dst := some 34, op := Go.Op.extract (Go.Operand.tmp 23) 0, type := 3, pos := "ref.go:48", after := #[{ on := 10, ground := Go.Ground.data }], guard := none } : Go.Oper)) (v := .int .i64 (sk : Int)) rfl (by kernel_rfl) (by kernel_rfl) (by kernel_rfl) (fun _ _ _ h => h) (Or.inl ⟨by rfl, ?_⟩) (by assumption) ?_
  · intro wx hSw
    try dsimp only at hSw
    have u0 := hc0 wx hSw
    go_simp
    try with_reducible rfl
  try simp only [Act.put, List.setIfInBounds_toArray, List.set_cons_zero, List.set_cons_succ]
  refine wpAnyH_take (i := 12) (oi := ({ dst := some 35, op := Go.Op.extract (Go.Operand.tmp 23) 1, type := 3, pos := "ref.go:48", after := #[{ on := 10, ground := Go.Ground.data }, { on := 14, ground := Go.Ground.gcOnly Go.Departure.lateStores }], guard := none } : Go.Oper)) (v := .int .i64 (ke : Int)) rfl (by kernel_rfl) (by kernel_rfl) (by kernel_rfl) (fun _ _ _ h => h) (Or.inl ⟨by rfl, ?_⟩) (by assumption) ?_
  · intro wx hSw
    try dsimp only at hSw
    have u0 := hc0 wx hSw
    go_simp
    try with_reducible rfl
  try simp only [Act.put, List.setIfInBounds_toArray, List.set_cons_zero, List.set_cons_succ]
  refine wpAnyH_take (i := 13) (oi := ({ dst := some 36, op := Go.Op.extract (Go.Operand.tmp 23) 2, type := 25, pos := "ref.go:48", after := #[{ on := 10, ground := Go.Ground.data }, { on := 15, ground := Go.Ground.gcOnly Go.Departure.lateStores }], guard := none } : Go.Oper)) (v := .int .i64 0) rfl (by kernel_rfl) (by kernel_rfl) (by kernel_rfl) (fun _ _ _ h => h) (Or.inl ⟨by rfl, ?_⟩) (by assumption) ?_
  · intro wx hSw
    try dsimp only at hSw
    have u0 := hc0 wx hSw
    go_simp
    try with_reducible rfl
  try simp only [Act.put, List.setIfInBounds_toArray, List.set_cons_zero, List.set_cons_succ]
  refine wpAnyH_take (i := 14) (oi := ({ dst := some 8, op := Go.Op.assign (Go.Operand.tmp 34), type := 3, pos := "ref.go:48", after := #[{ on := 11, ground := Go.Ground.data }, { on := 9, ground := Go.Ground.chain }, { on := 0, ground := Go.Ground.phase }, { on := 1, ground := Go.Ground.phase }, { on := 2, ground := Go.Ground.phase }, { on := 3, ground := Go.Ground.phase }, { on := 4, ground := Go.Ground.phase }, { on := 5, ground := Go.Ground.phase }, { on := 6, ground := Go.Ground.phase }, { on := 7, ground := Go.Ground.phase }, { on := 8, ground := Go.Ground.phase }, { on := 9, ground := Go.Ground.phase }, { on := 10, ground := Go.Ground.phase }, { on := 11, ground := Go.Ground.phase }, { on := 12, ground := Go.Ground.textOnly Go.Departure.lateStores }, { on := 13, ground := Go.Ground.textOnly Go.Departure.lateStores }], guard := none } : Go.Oper)) (v := .int .i64 (sk : Int)) rfl (by kernel_rfl) (by kernel_rfl) (by kernel_rfl) (fun _ _ _ h => h) (Or.inl ⟨by rfl, ?_⟩) (by assumption) ?_
  · intro wx hSw
    try dsimp only at hSw
    have u0 := hc0 wx hSw
    go_simp
    try with_reducible rfl
  try simp only [Act.put, List.setIfInBounds_toArray, List.set_cons_zero, List.set_cons_succ]
  refine wpAnyH_take (i := 15) (oi := ({ dst := some 9, op := Go.Op.assign (Go.Operand.tmp 35), type := 3, pos := "ref.go:48", after := #[{ on := 12, ground := Go.Ground.data }, { on := 14, ground := Go.Ground.chain }, { on := 0, ground := Go.Ground.phase }, { on := 1, ground := Go.Ground.phase }, { on := 2, ground := Go.Ground.phase }, { on := 3, ground := Go.Ground.phase }, { on := 4, ground := Go.Ground.phase }, { on := 5, ground := Go.Ground.phase }, { on := 6, ground := Go.Ground.phase }, { on := 7, ground := Go.Ground.phase }, { on := 8, ground := Go.Ground.phase }, { on := 9, ground := Go.Ground.phase }, { on := 10, ground := Go.Ground.phase }, { on := 11, ground := Go.Ground.phase }, { on := 12, ground := Go.Ground.phase }, { on := 13, ground := Go.Ground.textOnly Go.Departure.lateStores }, { on := 14, ground := Go.Ground.phase }], guard := none } : Go.Oper)) (v := .int .i64 (ke : Int)) rfl (by kernel_rfl) (by kernel_rfl) (by kernel_rfl) (fun _ _ _ h => h) (Or.inl ⟨by rfl, ?_⟩) (by assumption) ?_
  · intro wx hSw
    try dsimp only at hSw
    have u0 := hc0 wx hSw
    go_simp
    try with_reducible rfl
  try simp only [Act.put, List.setIfInBounds_toArray, List.set_cons_zero, List.set_cons_succ]
  refine wpAnyH_take (i := 16) (oi := ({ dst := some 10, op := Go.Op.assign (Go.Operand.tmp 36), type := 25, pos := "ref.go:48", after := #[{ on := 13, ground := Go.Ground.data }, { on := 15, ground := Go.Ground.chain }, { on := 0, ground := Go.Ground.phase }, { on := 1, ground := Go.Ground.phase }, { on := 2, ground := Go.Ground.phase }, { on := 3, ground := Go.Ground.phase }, { on := 4, ground := Go.Ground.phase }, { on := 5, ground := Go.Ground.phase }, { on := 6, ground := Go.Ground.phase }, { on := 7, ground := Go.Ground.phase }, { on := 8, ground := Go.Ground.phase }, { on := 9, ground := Go.Ground.phase }, { on := 10, ground := Go.Ground.phase }, { on := 11, ground := Go.Ground.phase }, { on := 12, ground := Go.Ground.phase }, { on := 13, ground := Go.Ground.phase }, { on := 14, ground := Go.Ground.phase }, { on := 15, ground := Go.Ground.phase }], guard := none } : Go.Oper)) (v := .int .i64 0) rfl (by kernel_rfl) (by kernel_rfl) (by kernel_rfl) (fun _ _ _ h => h) (Or.inl ⟨by rfl, ?_⟩) (by assumption) ?_
  · intro wx hSw
    try dsimp only at hSw
    have u0 := hc0 wx hSw
    go_simp
    try with_reducible rfl
  try simp only [Act.put, List.setIfInBounds_toArray, List.set_cons_zero, List.set_cons_succ]
  refine wpAnyH_done (by kernel_rfl) ?_ _
  have HB3 := hHeld
  go_upto_region 4 with fail
  generalize hwk : wk = w3 at *
  have hc03 : ∀ W, Below w3.heap.size w3 W → W.cell? ⟨r, 0, none⟩ = some (.int .i64 Q.next) := fun W hW => hc0 W (bt HB3 hW)
  refine wp_region_held_drew (S := (fun W => Below w3.heap.size w3 W)) (by kernel_rfl) ?_ (fun hHeld => ?_)
  · first | exact (Below.refl _ _).drew | assumption
  refine wpAnyH_take (i := 0) (oi := ({ dst := some 38, op := Go.Op.move (Go.Operand.tmp 0), type := 28, pos := "ref.go:49", after := #[], guard := none } : Go.Oper)) (v := .pointer (some ⟨r, 0, none⟩)) rfl (by kernel_rfl) (by kernel_rfl) (by kernel_rfl) (fun _ _ _ h => h) (Or.inl ⟨by rfl, ?_⟩) (by assumption) ?_
  · intro wx hSw
    try dsimp only at hSw
    have u0 := hc03 wx hSw
    go_simp
    try with_reducible rfl
  try simp only [Act.put, List.setIfInBounds_toArray, List.set_cons_zero, List.set_cons_succ]
  refine wpAnyH_take (i := 1) (oi := ({ dst := some 39, op := Go.Op.nilCheck (Go.Operand.tmp 38), type := 0, pos := "ref.go:49", after := #[{ on := 0, ground := Go.Ground.data }], guard := none } : Go.Oper)) (v := .pointer (some ⟨r, 0, none⟩)) rfl (by kernel_rfl) (by kernel_rfl) (by kernel_rfl) (fun _ _ _ h => h) (Or.inl ⟨by rfl, ?_⟩) (by assumption) ?_
  · intro wx hSw
    try dsimp only at hSw
    have u0 := hc03 wx hSw
    go_simp
    try with_reducible rfl
  try simp only [Act.put, List.setIfInBounds_toArray, List.set_cons_zero, List.set_cons_succ]
  refine wpAnyH_take (i := 2) (oi := ({ dst := some 40, op := Go.Op.fieldAddr 41 (Go.Operand.tmp 39) 0, type := 0, pos := "ref.go:49", after := #[{ on := 1, ground := Go.Ground.data }], guard := none } : Go.Oper)) (v := .pointer (some ⟨r, 0, none⟩)) rfl (by kernel_rfl) (by kernel_rfl) (by kernel_rfl) (fun _ _ _ h => h) (Or.inl ⟨by rfl, ?_⟩) (by assumption) ?_
  · intro wx hSw
    try dsimp only at hSw
    have u0 := hc03 wx hSw
    go_simp
    try with_reducible rfl
  try simp only [Act.put, List.setIfInBounds_toArray, List.set_cons_zero, List.set_cons_succ]
  refine wpAnyH_take (i := 3) (oi := ({ dst := some 41, op := Go.Op.load 3 (Go.Operand.tmp 40), type := 3, pos := "ref.go:49", after := #[{ on := 2, ground := Go.Ground.data }], guard := none } : Go.Oper)) (v := .int .i64 Q.next) rfl (by kernel_rfl) (by kernel_rfl) (by kernel_rfl) (fun _ _ _ h => h) (Or.inl ⟨by rfl, ?_⟩) (by assumption) ?_
  · intro wx hSw
    try dsimp only at hSw
    have u0 := hc03 wx hSw
    go_simp
    try with_reducible rfl
  try simp only [Act.put, List.setIfInBounds_toArray, List.set_cons_zero, List.set_cons_succ]
  refine wpAnyH_take (i := 4) (oi := ({ dst := some 42, op := Go.Op.move (Go.Operand.tmp 1), type := 3, pos := "ref.go:49", after := #[], guard := none } : Go.Oper)) (v := .int .i64 at_) rfl (by kernel_rfl) (by kernel_rfl) (by kernel_rfl) (fun _ _ _ h => h) (Or.inl ⟨by rfl, ?_⟩) (by assumption) ?_
  · intro wx hSw
    try dsimp only at hSw
    have u0 := hc03 wx hSw
    go_simp
    try with_reducible rfl
  try simp only [Act.put, List.setIfInBounds_toArray, List.set_cons_zero, List.set_cons_succ]
  refine wpAnyH_take (i := 5) (oi := ({ dst := some 43, op := Go.Op.move (Go.Operand.tmp 8), type := 3, pos := "ref.go:49", after := #[], guard := none } : Go.Oper)) (v := .int .i64 (sk : Int)) rfl (by kernel_rfl) (by kernel_rfl) (by kernel_rfl) (fun _ _ _ h => h) (Or.inl ⟨by rfl, ?_⟩) (by assumption) ?_
  · intro wx hSw
    try dsimp only at hSw
    have u0 := hc03 wx hSw
    go_simp
    try with_reducible rfl
  try simp only [Act.put, List.setIfInBounds_toArray, List.set_cons_zero, List.set_cons_succ]
  refine wpAnyH_take (i := 6) (oi := ({ dst := some 44, op := Go.Op.binOp Go.BinOp.add 3 (Go.Operand.tmp 42) (Go.Operand.tmp 43) 3, type := 3, pos := "ref.go:49", after := #[{ on := 4, ground := Go.Ground.data }, { on := 5, ground := Go.Ground.data }], guard := none } : Go.Oper)) (v := .int .i64 (at_ + (sk : Int))) rfl (by kernel_rfl) (by kernel_rfl) (by kernel_rfl) (fun _ _ _ h => h) (Or.inl ⟨by rfl, ?_⟩) (by assumption) ?_
  · intro wx hSw
    try dsimp only at hSw
    have u0 := hc03 wx hSw
    go_simp
    try with_reducible rfl
  try simp only [Act.put, List.setIfInBounds_toArray, List.set_cons_zero, List.set_cons_succ]
  refine wpAnyH_ready (rs := [7]) (by kernel_rfl) (by simp) ?_
  refine AllReadyH.cons (o := ({ dst := some 45, op := Go.Op.call { callee := Go.Callee.value (Go.Operand.func 35), args := #[Go.Operand.tmp 44], argTypes := #[3] }, type := 3, pos := "ref.go:49", after := #[{ on := 6, ground := Go.Ground.data }], guard := none } : Go.Oper)) rfl (fun K hK => ?_) AllReadyH.nil
  go_simp
  refine (hmod _).mono ?_
  rintro e wy ⟨rfl, hwy⟩
  subst hwy
  refine hK.out _ _ hHeld (fun hHeld => ?_)
  clear hK K
  try simp only [Act.put, List.setIfInBounds_toArray, List.set_cons_zero, List.set_cons_succ]
  refine wpAnyH_ready (rs := [8]) (by kernel_rfl) (by simp) ?_
  refine AllReadyH.cons (o := ({ dst := some 46, op := Go.Op.call { callee := Go.Callee.value (Go.Operand.func 43), args := #[Go.Operand.tmp 41, Go.Operand.tmp 45], argTypes := #[3, 3] }, type := 36, pos := "ref.go:49", after := #[{ on := 3, ground := Go.Ground.data }, { on := 7, ground := Go.Ground.data }, { on := 7, ground := Go.Ground.chain }], guard := none } : Go.Oper)) rfl (fun K hK => ?_) AllReadyH.nil
  go_simp
  refine (hdst _).mono ?_
  rintro e wy ⟨rfl, hwy⟩
  subst hwy
  refine hK.out _ _ hHeld (fun hHeld => ?_)
  clear hK K
  try simp only [Act.put, List.setIfInBounds_toArray, List.set_cons_zero, List.set_cons_succ]
  refine wpAnyH_take (i := 9) (oi := ({ dst := some 37, op := Go.Op.move (Go.Operand.tmp 46), type := 36, pos := "ref.go:49", after := #[{ on := 8, ground := Go.Ground.data }], guard := none } : Go.Oper)) (v := .tuple #[.int .i64 (d : Int), .int .i64 0]) rfl (by kernel_rfl) (by kernel_rfl) (by kernel_rfl) (fun _ _ _ h => h) (Or.inl ⟨by rfl, ?_⟩) (by assumption) ?_
  · intro wx hSw
    try dsimp only at hSw
    have u0 := hc03 wx hSw
    go_simp
    try with_reducible rfl
  try simp only [Act.put, List.setIfInBounds_toArray, List.set_cons_zero, List.set_cons_succ]
  refine wpAnyH_take (i := 10) (oi := ({ dst := some 47, op := Go.Op.extract (Go.Operand.tmp 37) 0, type := 3, pos := "ref.go:49", after := #[{ on := 9, ground := Go.Ground.data }], guard := none } : Go.Oper)) (v := .int .i64 (d : Int)) rfl (by kernel_rfl) (by kernel_rfl) (by kernel_rfl) (fun _ _ _ h => h) (Or.inl ⟨by rfl, ?_⟩) (by assumption) ?_
  · intro wx hSw
    try dsimp only at hSw
    have u0 := hc03 wx hSw
    go_simp
    try with_reducible rfl
  try simp only [Act.put, List.setIfInBounds_toArray, List.set_cons_zero, List.set_cons_succ]
  refine wpAnyH_take (i := 11) (oi := ({ dst := some 48, op := Go.Op.extract (Go.Operand.tmp 37) 1, type := 25, pos := "ref.go:49", after := #[{ on := 9, ground := Go.Ground.data }, { on := 12, ground := Go.Ground.gcOnly Go.Departure.lateStores }], guard := none } : Go.Oper)) (v := .int .i64 0) rfl (by kernel_rfl) (by kernel_rfl) (by kernel_rfl) (fun _ _ _ h => h) (Or.inl ⟨by rfl, ?_⟩) (by assumption) ?_
  · intro wx hSw
    try dsimp only at hSw
    have u0 := hc03 wx hSw
    go_simp
    try with_reducible rfl
  try simp only [Act.put, List.setIfInBounds_toArray, List.set_cons_zero, List.set_cons_succ]
  refine wpAnyH_take (i := 12) (oi := ({ dst := some 11, op := Go.Op.assign (Go.Operand.tmp 47), type := 3, pos := "ref.go:49", after := #[{ on := 10, ground := Go.Ground.data }, { on := 8, ground := Go.Ground.chain }, { on := 0, ground := Go.Ground.phase }, { on := 1, ground := Go.Ground.phase }, { on := 2, ground := Go.Ground.phase }, { on := 3, ground := Go.Ground.phase }, { on := 4, ground := Go.Ground.phase }, { on := 5, ground := Go.Ground.phase }, { on := 6, ground := Go.Ground.phase }, { on := 7, ground := Go.Ground.phase }, { on := 8, ground := Go.Ground.phase }, { on := 9, ground := Go.Ground.phase }, { on := 10, ground := Go.Ground.phase }, { on := 11, ground := Go.Ground.textOnly Go.Departure.lateStores }], guard := none } : Go.Oper)) (v := .int .i64 (d : Int)) rfl (by kernel_rfl) (by kernel_rfl) (by kernel_rfl) (fun _ _ _ h => h) (Or.inl ⟨by rfl, ?_⟩) (by assumption) ?_
  · intro wx hSw
    try dsimp only at hSw
    have u0 := hc03 wx hSw
    go_simp
    try with_reducible rfl
  try simp only [Act.put, List.setIfInBounds_toArray, List.set_cons_zero, List.set_cons_succ]
  refine wpAnyH_take (i := 13) (oi := ({ dst := some 12, op := Go.Op.assign (Go.Operand.tmp 48), type := 25, pos := "ref.go:49", after := #[{ on := 11, ground := Go.Ground.data }, { on := 12, ground := Go.Ground.chain }, { on := 0, ground := Go.Ground.phase }, { on := 1, ground := Go.Ground.phase }, { on := 2, ground := Go.Ground.phase }, { on := 3, ground := Go.Ground.phase }, { on := 4, ground := Go.Ground.phase }, { on := 5, ground := Go.Ground.phase }, { on := 6, ground := Go.Ground.phase }, { on := 7, ground := Go.Ground.phase }, { on := 8, ground := Go.Ground.phase }, { on := 9, ground := Go.Ground.phase }, { on := 10, ground := Go.Ground.phase }, { on := 11, ground := Go.Ground.phase }, { on := 12, ground := Go.Ground.phase }], guard := none } : Go.Oper)) (v := .int .i64 0) rfl (by kernel_rfl) (by kernel_rfl) (by kernel_rfl) (fun _ _ _ h => h) (Or.inl ⟨by rfl, ?_⟩) (by assumption) ?_
  · intro wx hSw
    try dsimp only at hSw
    have u0 := hc03 wx hSw
    go_simp
    try with_reducible rfl
  try simp only [Act.put, List.setIfInBounds_toArray, List.set_cons_zero, List.set_cons_succ]
  refine wpAnyH_done (by kernel_rfl) ?_ _
  have HB4 := bt HB3 hHeld
  clear hHeld HB3 hc03 hc0 hwin hcut hmod hdst hbk
  try clear hchk
  generalize w3.drew = w4 at *
  have h4 := h.later HB4
  obtain ⟨v1, w5, ea5, ho5, hb5⟩ := h4.hh.clone (by rw [hereL_len]; omega) 38
  rw [hereL_len] at ho5
  obtain ⟨gx1, cx1, hv1⟩ : ∃ g c, v1 = .slice (some ⟨g, 0, none⟩) Q.room c := by
    rcases ho5.2 with ⟨-, e⟩ | ⟨g, cap, cur, hv, -⟩
    · omega
    · exact ⟨g, cap, hv⟩
  subst hv1
  obtain ⟨gH, oH, cH, hvh, -⟩ := h4.hh.shape
  rw [hereL_len] at hvh
  subst hvh
  obtain ⟨gB, oB, cB, hvb, -⟩ := h4.hb.shape
  rw [byL_len] at hvb
  subst hvb
  have d3 : w4.cell? ⟨r, 3, none⟩ = some (.slice (some ⟨gH, oH, none⟩) Q.room cH) := (h4.at5.2 3 _ rfl).1
  have d3' : (w4.alloc (.cells #[] 4)).cell? ⟨r, 3, none⟩ = some (.slice (some ⟨gH, oH, none⟩) Q.room cH) := later (bel1 w4 _) d3
  have hA5 := h4.at5.later hb5
  obtain ⟨d35, d35f⟩ : w5.cell? ⟨r, 3, none⟩ = some (.slice (some ⟨gH, oH, none⟩) Q.room cH) ∧ w5.frozen? ⟨r, 3, none⟩ = false := hA5.2 3 _ rfl
  have hs4 := HB4.size
  have hs5 := hb5.size
  have hg1 := row_geG ho5 gx1 rfl
  have hA6 := hA5.set 3 (.slice (some ⟨gx1, 0, none⟩) Q.room cx1)
  have hb6 : Below w.heap.size w5 (w5.setCell ⟨r, 3, none⟩ (.slice (some ⟨gx1, 0, none⟩) Q.room cx1)) ∨ True := Or.inr trivial
  have ht6 := turn_set w5 r 3 (.slice (some ⟨gx1, 0, none⟩) Q.room cx1)
  have hV6 := (h4.hb.later hb5).turn ht6 (fun k hk e => (h4.ab k hk).2 e)
  have ho6 := row_turn (row_low ho5 hs4) ht6 (fun k hk e => by cases hk; have e' : gx1 = r := e; omega)
  have hT6 : Turn (fun k => k = r ∨ w.heap.size ≤ k) w (w5.setCell ⟨r, 3, none⟩ (.slice (some ⟨gx1, 0, none⟩) Q.room cx1)) := ((Turn.of_below HB4).trans (Turn.of_below hb5)).trans (ht6.mono (fun k e => Or.inl e))
  have hA6' := hA6
  clear hA5
  go_upto_region 6 with (first | (at_builtin; refine wpList_append_eq rfl _ _ rfl rfl rfl ea5 ?_) | go_in)
  clear d3 d3' d35 d35f ea5 ho5 ht6
  generalize w5.setCell ⟨r, 3, none⟩ (.slice (some ⟨gx1, 0, none⟩) Q.room cx1) = w6 at *
  have hs6 : w.heap.size ≤ w6.heap.size := hT6.size
  obtain ⟨v2, w7, ea7, ho7, hb7⟩ := hV6.clone (by rw [byL_len]; omega) 39
  rw [byL_len] at ho7
  obtain ⟨gx2, cx2, hv2⟩ : ∃ g c, v2 = .slice (some ⟨g, 0, none⟩) Q.room c := by
    rcases ho7.2 with ⟨-, e⟩ | ⟨g, cap, cur, hv, -⟩
    · omega
    · exact ⟨g, cap, hv⟩
  subst hv2
  have d4 : w6.cell? ⟨r, 4, none⟩ = some (.slice (some ⟨gB, oB, none⟩) Q.room cB) := (hA6.2 4 _ rfl).1
  have d4' : (w6.alloc (.cells #[] 5)).cell? ⟨r, 4, none⟩ = some (.slice (some ⟨gB, oB, none⟩) Q.room cB) := later (bel1 w6 _) d4
  have hA7 := hA6.later hb7
  obtain ⟨d47, d47f⟩ : w7.cell? ⟨r, 4, none⟩ = some (.slice (some ⟨gB, oB, none⟩) Q.room cB) ∧ w7.frozen? ⟨r, 4, none⟩ = false := hA7.2 4 _ rfl
  have ht8 := turn_set w7 r 4 (.slice (some ⟨gx2, 0, none⟩) Q.room cx2)
  have hg2 := row_geG ho7 gx2 rfl
  have hRM : RM (w7.setCell ⟨r, 4, none⟩ (.slice (some ⟨gx2, 0, none⟩) Q.room cx2)) w.heap.size r Q gx1 cx1 gx2 cx2 :=
    ⟨hA7.set 4 _, row_turn (row_later ho6 hb7) ht8 (fun k hk e => by cases hk; have e' : gx1 = r := e; omega), row_turn (row_low ho7 hs6) ht8 (fun k hk e => by cases hk; have e' : gx2 = r := e; omega), hrw⟩
  have hT8 : Turn (fun k => k = r ∨ w.heap.size ≤ k) w (w7.setCell ⟨r, 4, none⟩ (.slice (some ⟨gx2, 0, none⟩) Q.room cx2)) := (hT6.trans (Turn.of_below hb7)).trans (ht8.mono (fun k e => Or.inl e))
  have HM8 : Hid (RM (w7.setCell ⟨r, 4, none⟩ (.slice (some ⟨gx2, 0, none⟩) Q.room cx2)) w.heap.size r { Q with ap := addAp Q.ap d (S'.take 0) } gx1 cx1 gx2 cx2 ∧ Turn (fun k => k = r ∨ w.heap.size ≤ k) w (w7.setCell ⟨r, 4, none⟩ (.slice (some ⟨gx2, 0, none⟩) Q.room cx2))) := by
    rw [List.take_zero, addAp_nil]
    exact ⟨hRM, hT8⟩
  clear hRM hT8 hA6 hA6' hV6 ho6 hT6
  go_upto_region 7 with (first | (at_builtin; refine wpList_append_eq rfl _ _ rfl rfl rfl ea7 ?_) | go_in)
  clear d4 d4' d47 d47f ea7 ho7 ht8 hA7
  generalize w7.setCell ⟨r, 4, none⟩ (.slice (some ⟨gx2, 0, none⟩) Q.room cx2) = w8 at *
  go_wp2_with fail
  try go_frame
  go_loopw [13] (fun s13 wr => ∃ i : Nat, i ≤ ke ∧ s13 = .int .i64 (i : Int) ∧ Hid (RM wr w.heap.size r { Q with ap := addAp Q.ap d (S'.take i) } gx1 cx1 gx2 cx2 ∧ Turn (fun k => k = r ∨ w.heap.size ≤ k) w wr)) (fun s13 _ => ke - (RowKit.intOf s13).toNat)
  case atStart => exact ⟨0, Nat.zero_le _, rfl, HM8⟩
  case round =>
    clear HM8
    obtain ⟨i, hi, rfl, HM⟩ := hrel
    by_cases hik : i < ke
    · have z1 : (i : Int) < (ke : Int) := by omega
      obtain ⟨x, hx⟩ : ∃ x : Nat, x = d + i := ⟨_, rfl⟩
      have hdk : d + ke ≤ Q.room := by rcases hfit with e | e; omega; omega
      have hxr : x < Q.room := by omega
      have hdi : (d : Int) + (i : Int) = (x : Int) := by omega
      obtain ⟨y, hy⟩ : ∃ y : Nat, y = sk + i := ⟨_, rfl⟩
      have hsi : (sk : Int) + (i : Int) = (y : Int) := by omega
      obtain ⟨bb, hb1, hb2⟩ := hSat i hik
      have hix : ∀ W, (Instr.index 9 (.string s) (.int .i64 (y : Int))).run Try.prog W = .ok (.int .u8 (bb.toNat : Int)) W := run_ix s y bb (by rw [hy]; exact hb2)
      obtain ⟨c1, f1⟩ := HM.out.1.c1 hxr
      have e9 : (addAp Q.ap d (S'.take i) x).isSome = (Q.ap x).isSome := by rw [hx, addAp_at]
      rw [show ({ Q with ap := addAp Q.ap d (S'.take i) } : Rq).ap x = addAp Q.ap d (S'.take i) x from rfl, e9] at c1
      have k3 : wr.cell? ⟨r, 3, none⟩ = some (.slice (some ⟨gx1, 0, none⟩) Q.room cx1) := (HM.out.1.at5.2 3 _ rfl).1
      have k4 : wr.cell? ⟨r, 4, none⟩ = some (.slice (some ⟨gx2, 0, none⟩) Q.room cx2) := (HM.out.1.at5.2 4 _ rfl).1
      have hxI : (x : Int) < (Q.room : Int) := by omega
      have hwx : IntKind.i64.wrap ((x : Nat) : Int) = (x : Int) := by rw [IntKind.wrap_i64] <;> omega
      have hwy : IntKind.i64.wrap ((y : Nat) : Int) = (y : Int) := by rw [IntKind.wrap_i64] <;> omega
      have HX : Hid (x = d + i) := hx
      cases hap : Q.ap x with
      | some b0 =>
        rw [hap] at c1
        have HN : Hid (RM wr w.heap.size r { Q with ap := addAp Q.ap d (S'.take (i + 1)) } gx1 cx1 gx2 cx2 ∧ Turn (fun k => k = r ∨ w.heap.size ≤ k) w wr) := by
          rw [addAp_step_has (by rw [← hx, hap]; rfl)]
          exact HM.out
        have c1 : wr.cell? ⟨gx1, x, none⟩ = some (.bool true) := c1
        clear hap hx hy e9 hb1 hb2 HM
        go_wp2
        go_roundw
        case rel => exact ⟨i + 1, by omega, by first | rfl | simp, HN⟩
        case measure => first | omega | (simp only [RowKit.intOf]; omega) | (simp [RowKit.intOf]; omega)
      | none =>
        rw [hap] at c1
        have c1 : wr.cell? ⟨gx1, x, none⟩ = some (.bool false) := c1
        obtain ⟨hRM1, hT1⟩ := HM.out.1.put (x := x) hxr bb
        have HN : Hid (RM ((wr.setCell ⟨gx1, x, none⟩ (.bool true)).setCell ⟨gx2, x, none⟩ (byV bb)) w.heap.size r { Q with ap := addAp Q.ap d (S'.take (i + 1)) } gx1 cx1 gx2 cx2 ∧ Turn (fun k => k = r ∨ w.heap.size ≤ k) w ((wr.setCell ⟨gx1, x, none⟩ (.bool true)).setCell ⟨gx2, x, none⟩ (byV bb))) := by
          rw [addAp_step_new (by rw [← hx]; exact hap) hb1, ← hx]
          exact ⟨hRM1, HM.out.2.trans (hT1.mono (fun k e => Or.inr e))⟩
        obtain ⟨k1, k2, k5, -, -⟩ := HM.out.1.ge
        have ht1 := turn_set wr gx1 x (.bool true)
        have q4 : (wr.setCell ⟨gx1, x, none⟩ (.bool true)).cell? ⟨r, 4, none⟩ = some (.slice (some ⟨gx2, 0, none⟩) Q.room cx2) := ((HM.out.1.at5.turn ht1 (by omega)).2 4 _ rfl).1
        obtain ⟨c2, f2⟩ := HM.out.1.c2 hxr
        have q2 : (wr.setCell ⟨gx1, x, none⟩ (.bool true)).cell? ⟨gx2, x, none⟩ = some (byV ((addAp Q.ap d (S'.take i) x).getD 0)) := (ht1.cell (World.block_lt_of_cell? _ _ c2) (fun e => k5 e.symm) x).trans c2
        have q2f : (wr.setCell ⟨gx1, x, none⟩ (.bool true)).frozen? ⟨gx2, x, none⟩ = false := by rw [World.frozen?_setCell]; exact f2
        clear hap hx hy e9 hb1 hb2 HM hRM1 hT1 ht1
        go_upto_region 12 with fail
        clear c1 f1 c2 f2 k3 k4
        generalize wr.setCell ⟨gx1, x, none⟩ (.bool true) = w9 at *
        have q4' : w9.drew.cell? ⟨r, 4, none⟩ = some (.slice (some ⟨gx2, 0, none⟩) Q.room cx2) := q4
        have q2' : w9.drew.cell? ⟨gx2, x, none⟩ = some (.int .u8 ((((addAp Q.ap d (S'.take i) x).getD 0).toNat : Nat) : Int)) := q2
        have q2f' : w9.drew.frozen? ⟨gx2, x, none⟩ = false := q2f
        refine wp_region_held_drew (S := (fun _ => True)) (by kernel_rfl) ?_ (fun hHeld => ?_)
        · first | exact trivial | assumption
        refine wpAnyH_take (i := 0) (oi := ({ dst := some 90, op := Go.Op.move (Go.Operand.tmp 0), type := 28, pos := "ref.go:55", after := #[], guard := none } : Go.Oper)) (v := .pointer (some ⟨r, 0, none⟩)) rfl (by kernel_rfl) (by kernel_rfl) (by kernel_rfl) (fun _ _ _ h => h) (Or.inl ⟨by rfl, ?_⟩) (by assumption) ?_
        · intro wx hSw
          try dsimp only at hSw
          have u9 := hix wx
          go_simp
          try with_reducible rfl
        try simp only [Act.put, List.setIfInBounds_toArray, List.set_cons_zero, List.set_cons_succ]
        refine wpAnyH_take (i := 1) (oi := ({ dst := some 91, op := Go.Op.nilCheck (Go.Operand.tmp 90), type := 0, pos := "ref.go:55", after := #[{ on := 0, ground := Go.Ground.data }], guard := none } : Go.Oper)) (v := .pointer (some ⟨r, 0, none⟩)) rfl (by kernel_rfl) (by kernel_rfl) (by kernel_rfl) (fun _ _ _ h => h) (Or.inl ⟨by rfl, ?_⟩) (by assumption) ?_
        · intro wx hSw
          try dsimp only at hSw
          have u9 := hix wx
          go_simp
          try with_reducible rfl
        try simp only [Act.put, List.setIfInBounds_toArray, List.set_cons_zero, List.set_cons_succ]
        refine wpAnyH_take (i := 2) (oi := ({ dst := some 92, op := Go.Op.fieldAddr 41 (Go.Operand.tmp 91) 4, type := 0, pos := "ref.go:55", after := #[{ on := 1, ground := Go.Ground.data }], guard := none } : Go.Oper)) (v := .pointer (some ⟨r, 4, none⟩)) rfl (by kernel_rfl) (by kernel_rfl) (by kernel_rfl) (fun _ _ _ h => h) (Or.inl ⟨by rfl, ?_⟩) (by assumption) ?_
        · intro wx hSw
          try dsimp only at hSw
          have u9 := hix wx
          go_simp
          try with_reducible rfl
        try simp only [Act.put, List.setIfInBounds_toArray, List.set_cons_zero, List.set_cons_succ]
        refine wpAnyH_take (i := 4) (oi := ({ dst := some 94, op := Go.Op.move (Go.Operand.tmp 11), type := 3, pos := "ref.go:55", after := #[], guard := none } : Go.Oper)) (v := .int .i64 (d : Int)) rfl (by kernel_rfl) (by kernel_rfl) (by kernel_rfl) (fun _ _ _ h => h) (Or.inl ⟨by rfl, ?_⟩) (by assumption) ?_
        · intro wx hSw
          try dsimp only at hSw
          have u9 := hix wx
          go_simp
          try with_reducible rfl
        try simp only [Act.put, List.setIfInBounds_toArray, List.set_cons_zero, List.set_cons_succ]
        refine wpAnyH_take (i := 5) (oi := ({ dst := some 95, op := Go.Op.move (Go.Operand.tmp 13), type := 3, pos := "ref.go:55", after := #[], guard := none } : Go.Oper)) (v := .int .i64 (i : Int)) rfl (by kernel_rfl) (by kernel_rfl) (by kernel_rfl) (fun _ _ _ h => h) (Or.inl ⟨by rfl, ?_⟩) (by assumption) ?_
        · intro wx hSw
          try dsimp only at hSw
          have u9 := hix wx
          go_simp
          try with_reducible rfl
        try simp only [Act.put, List.setIfInBounds_toArray, List.set_cons_zero, List.set_cons_succ]
        refine wpAnyH_take (i := 6) (oi := ({ dst := some 96, op := Go.Op.binOp Go.BinOp.add 3 (Go.Operand.tmp 94) (Go.Operand.tmp 95) 3, type := 3, pos := "ref.go:55", after := #[{ on := 4, ground := Go.Ground.data }, { on := 5, ground := Go.Ground.data }], guard := none } : Go.Oper)) (v := .int .i64 (x : Int)) rfl (by kernel_rfl) (by kernel_rfl) (by kernel_rfl) (fun _ _ _ h => h) (Or.inl ⟨by rfl, ?_⟩) (by assumption) ?_
        · intro wx hSw
          try dsimp only at hSw
          have u9 := hix wx
          go_simp
          try with_reducible rfl
        try simp only [Act.put, List.setIfInBounds_toArray, List.set_cons_zero, List.set_cons_succ]
        refine wpAnyH_take (i := 7) (oi := ({ dst := some 97, op := Go.Op.move (Go.Operand.tmp 2), type := 9, pos := "ref.go:55", after := #[], guard := none } : Go.Oper)) (v := .string s) rfl (by kernel_rfl) (by kernel_rfl) (by kernel_rfl) (fun _ _ _ h => h) (Or.inl ⟨by rfl, ?_⟩) (by assumption) ?_
        · intro wx hSw
          try dsimp only at hSw
          have u9 := hix wx
          go_simp
          try with_reducible rfl
        try simp only [Act.put, List.setIfInBounds_toArray, List.set_cons_zero, List.set_cons_succ]
        refine wpAnyH_take (i := 8) (oi := ({ dst := some 98, op := Go.Op.move (Go.Operand.tmp 8), type := 3, pos := "ref.go:55", after := #[], guard := none } : Go.Oper)) (v := .int .i64 (sk : Int)) rfl (by kernel_rfl) (by kernel_rfl) (by kernel_rfl) (fun _ _ _ h => h) (Or.inl ⟨by rfl, ?_⟩) (by assumption) ?_
        · intro wx hSw
          try dsimp only at hSw
          have u9 := hix wx
          go_simp
          try with_reducible rfl
        try simp only [Act.put, List.setIfInBounds_toArray, List.set_cons_zero, List.set_cons_succ]
        refine wpAnyH_take (i := 9) (oi := ({ dst := some 99, op := Go.Op.move (Go.Operand.tmp 13), type := 3, pos := "ref.go:55", after := #[], guard := none } : Go.Oper)) (v := .int .i64 (i : Int)) rfl (by kernel_rfl) (by kernel_rfl) (by kernel_rfl) (fun _ _ _ h => h) (Or.inl ⟨by rfl, ?_⟩) (by assumption) ?_
        · intro wx hSw
          try dsimp only at hSw
          have u9 := hix wx
          go_simp
          try with_reducible rfl
        try simp only [Act.put, List.setIfInBounds_toArray, List.set_cons_zero, List.set_cons_succ]
        refine wpAnyH_take (i := 10) (oi := ({ dst := some 100, op := Go.Op.binOp Go.BinOp.add 3 (Go.Operand.tmp 98) (Go.Operand.tmp 99) 3, type := 3, pos := "ref.go:55", after := #[{ on := 8, ground := Go.Ground.data }, { on := 9, ground := Go.Ground.data }], guard := none } : Go.Oper)) (v := .int .i64 (y : Int)) rfl (by kernel_rfl) (by kernel_rfl) (by kernel_rfl) (fun _ _ _ h => h) (Or.inl ⟨by rfl, ?_⟩) (by assumption) ?_
        · intro wx hSw
          try dsimp only at hSw
          have u9 := hix wx
          go_simp
          try with_reducible rfl
        try simp only [Act.put, List.setIfInBounds_toArray, List.set_cons_zero, List.set_cons_succ]
        refine wpAnyH_take (i := 11) (oi := ({ dst := some 101, op := Go.Op.index 9 (Go.Operand.tmp 97) (Go.Operand.tmp 100), type := 5, pos := "ref.go:55", after := #[{ on := 7, ground := Go.Ground.data }, { on := 10, ground := Go.Ground.data }], guard := none } : Go.Oper)) (v := .int .u8 (bb.toNat : Int)) rfl (by kernel_rfl) (by kernel_rfl) (by kernel_rfl) (fun _ _ _ h => h) (Or.inl ⟨by rfl, ?_⟩) (by assumption) ?_
        · intro wx hSw
          try dsimp only at hSw
          have u9 := hix wx
          go_simp
          try with_reducible rfl
        try simp only [Act.put, List.setIfInBounds_toArray, List.set_cons_zero, List.set_cons_succ]
        refine wpAnyH_ready (rs := [3]) (by kernel_rfl) (by simp) ?_
        refine AllReadyH.cons (o := ({ dst := some 93, op := Go.Op.load 39 (Go.Operand.tmp 92), type := 39, pos := "ref.go:55", after := #[{ on := 2, ground := Go.Ground.data }], guard := none } : Go.Oper)) rfl (fun K hK => ?_) AllReadyH.nil
        go_simp
        refine hK.out _ _ trivial (fun hHeld => ?_)
        clear hK K
        try simp only [Act.put, List.setIfInBounds_toArray, List.set_cons_zero, List.set_cons_succ]
        refine wpAnyH_take (i := 12) (oi := ({ dst := some 102, op := Go.Op.indexAddr 39 (Go.Operand.tmp 93) (Go.Operand.tmp 96), type := 0, pos := "ref.go:55", after := #[{ on := 3, ground := Go.Ground.data }, { on := 6, ground := Go.Ground.data }, { on := 0, ground := Go.Ground.phase }, { on := 1, ground := Go.Ground.phase }, { on := 2, ground := Go.Ground.phase }, { on := 3, ground := Go.Ground.phase }, { on := 4, ground := Go.Ground.phase }, { on := 5, ground := Go.Ground.phase }, { on := 6, ground := Go.Ground.phase }, { on := 7, ground := Go.Ground.phase }, { on := 8, ground := Go.Ground.phase }, { on := 9, ground := Go.Ground.phase }, { on := 10, ground := Go.Ground.phase }, { on := 11, ground := Go.Ground.phase }], guard := none } : Go.Oper)) (v := .pointer (some ⟨gx2, x, none⟩)) rfl (by kernel_rfl) (by kernel_rfl) (by kernel_rfl) (fun _ _ _ h => h) (Or.inl ⟨by rfl, ?_⟩) (by assumption) ?_
        · intro wx hSw
          try dsimp only at hSw
          have u9 := hix wx
          go_simp
          try with_reducible rfl
        try simp only [Act.put, List.setIfInBounds_toArray, List.set_cons_zero, List.set_cons_succ]
        refine wpAnyH_ready (rs := [13]) (by kernel_rfl) (by simp) ?_
        refine AllReadyH.cons (o := ({ dst := none, op := Go.Op.store 5 (Go.Operand.tmp 102) (Go.Operand.tmp 101), type := 0, pos := "ref.go:55", after := #[{ on := 12, ground := Go.Ground.data }, { on := 11, ground := Go.Ground.data }, { on := 0, ground := Go.Ground.phase }, { on := 1, ground := Go.Ground.phase }, { on := 2, ground := Go.Ground.phase }, { on := 3, ground := Go.Ground.phase }, { on := 4, ground := Go.Ground.phase }, { on := 5, ground := Go.Ground.phase }, { on := 6, ground := Go.Ground.phase }, { on := 7, ground := Go.Ground.phase }, { on := 8, ground := Go.Ground.phase }, { on := 9, ground := Go.Ground.phase }, { on := 10, ground := Go.Ground.phase }, { on := 11, ground := Go.Ground.phase }], guard := none } : Go.Oper)) rfl (fun K hK => ?_) AllReadyH.nil
        go_simp
        refine hK.out _ _ trivial (fun hHeld => ?_)
        clear hK K
        try simp only [Act.put, List.setIfInBounds_toArray, List.set_cons_zero, List.set_cons_succ]
        refine wpAnyH_done (by kernel_rfl) ?_ _
        clear q4' q2' q2f' q4 q2 q2f
        have HN' : Hid (RM (w9.drew.setCell ⟨gx2, x, none⟩ (.int .u8 (bb.toNat : Int))) w.heap.size r { Q with ap := addAp Q.ap d (S'.take (i + 1)) } gx1 cx1 gx2 cx2 ∧ Turn (fun k => k = r ∨ w.heap.size ≤ k) w (w9.drew.setCell ⟨gx2, x, none⟩ (.int .u8 (bb.toNat : Int)))) := by
          have hbd : Below (w9.setCell ⟨gx2, x, none⟩ (byV bb)).heap.size (w9.setCell ⟨gx2, x, none⟩ (byV bb)) (w9.drew.setCell ⟨gx2, x, none⟩ (.int .u8 (bb.toNat : Int))) := (Below.refl _ (w9.setCell ⟨gx2, x, none⟩ (byV bb))).drew
          exact ⟨HN.out.1.turn (S := fun _ => False) (Turn.of_below hbd) (fun e => e) (fun e => e) (fun e => e), HN.out.2.later hbd⟩
        go_wp2
        go_roundw
        case rel => exact ⟨i + 1, by omega, by first | rfl | simp, HN'⟩
        case measure => first | omega | (simp only [RowKit.intOf]; omega) | (simp [RowKit.intOf]; omega)
    · have z1 : ¬ (i : Int) < (ke : Int) := by omega
      have hie : i = ke := by omega
      have HM1 : Hid (RM wr w.heap.size r { Q with ap := addAp Q.ap d S' } gx1 cx1 gx2 cx2 ∧ Turn (fun k => k = r ∨ w.heap.size ≤ k) w wr) := by
        have h9 := HM.out
        rw [hie, ← hSl, List.take_length] at h9
        exact h9
      clear HM hie
      obtain ⟨w9, hw9⟩ : ∃ x, x = wr := ⟨wr, rfl⟩
      subst hw9
      obtain ⟨ap1, hap1⟩ : ∃ x, x = addAp Q.ap d S' := ⟨_, rfl⟩
      rw [← hap1] at HL HPW HM1
      have HAP : Hid (ap1 = addAp Q.ap d S') := hap1
      clear hap1
      go_wp2_with fail
      try go_frame
      go_loopw [14] (fun s14 W => ∃ j : Nat, j ≤ L.length ∧ s14 = .int .i64 (j : Int) ∧ W = w9) (fun s14 _ => L.length - (RowKit.intOf s14).toNat)
      case atStart => exact ⟨0, Nat.zero_le _, rfl, rfl⟩
      case round =>
        obtain ⟨j, hj, rfl, hwe⟩ := hrel
        subst hwe
        obtain ⟨w9, hw9⟩ : ∃ x, x = wr := ⟨wr, rfl⟩
        subst hw9
        have k1 : w9.cell? ⟨r, 1, none⟩ = some (.int .i64 (Q.room : Int)) := (HM1.out.1.at5.2 1 _ rfl).1
        have k3 : w9.cell? ⟨r, 3, none⟩ = some (.slice (some ⟨gx1, 0, none⟩) Q.room cx1) := (HM1.out.1.at5.2 3 _ rfl).1
        go_upto_region 14 with fail
        go_cut [117] from 103 to 116 (fun s117 W => s117 = .bool (decide (j < L.length)) ∧ W = w9)
        case first =>
          by_cases hjr : j < Q.room
          · have z2 : (j : Int) < (Q.room : Int) := by omega
            obtain ⟨c1, -⟩ := HM1.out.1.c1 (x := j) hjr
            have c1 : w9.cell? ⟨gx1, j, none⟩ = some (.bool (ap1 j).isSome) := c1
            by_cases hjl : j < L.length
            · have hv : (ap1 j).isSome = true := by rw [HL.out.has j _ (List.getElem?_eq_getElem hjl)]; rfl
              have HV : Hid ((ap1 j).isSome = true) := hv
              clear hv
              go_wp2
              go_meet
              case rel => exact ⟨by rw [decide_eq_true hjl, HV.out], rfl⟩
            · have hje : j = L.length := by omega
              have HV : Hid ((ap1 j).isSome = false) := by show _ = _; rw [hje, HL.out.fin]; rfl
              clear hje
              go_wp2
              go_meet
              case rel => exact ⟨by rw [decide_eq_false hjl, HV.out], rfl⟩
          · have z2 : ¬ (j : Int) < (Q.room : Int) := by omega
            go_wp2
            go_meet
            case rel => exact ⟨by rw [decide_eq_false (by omega)], rfl⟩
        case rest =>
        obtain ⟨rfl, hw10⟩ := hcut
        subst hw10
        obtain ⟨w9, hw9⟩ : ∃ x, x = wc := ⟨wc, rfl⟩
        subst hw9
        by_cases hjl : j < L.length
        · rw [decide_eq_true hjl]
          go_wp2
          go_roundw
          case rel => exact ⟨j + 1, by omega, by first | rfl | simp, by first | rfl | trivial⟩
          case measure => first | omega | (simp only [RowKit.intOf]; omega) | (simp [RowKit.intOf]; omega)
        · rw [decide_eq_false hjl]
          have hjn : j = L.length := by omega
          have HJ : Hid (j = L.length) := hjn
          have hjr : j ≤ Q.room := by omega
          clear hjl hjn
          obtain ⟨k1', k2', k5, kl1, kl2⟩ := HM1.out.1.ge
          have hV1 : VBo w9 (.slice (some ⟨gx1, 0, none⟩) Q.room cx1) (hereL { Q with ap := ap1 }) := VBo.of_own (base := w.heap.size) (by rw [hereL_len]; exact HM1.out.1.o1) (fun e => by have := hereL_len { Q with ap := ap1 }; rw [e] at this; simp at this; omega)
          have hV2 : VBy w9 (.slice (some ⟨gx2, 0, none⟩) Q.room cx2) (byL { Q with ap := ap1 }) := VBy.of_own (base := w.heap.size) (by rw [byL_len]; exact HM1.out.1.o2) (fun e => by have := byL_len { Q with ap := ap1 }; rw [e] at this; simp at this; omega)
          have hcap : Q.room ≤ cx2 := by
            rcases HM1.out.1.o2.2 with ⟨e, -⟩ | ⟨g, cap, cur, e, hg, hb, h9, -⟩
            · cases e
            · cases e; exact h9
          have hcv : (convert 39 9 (.slice (some ⟨gx2, 0, none⟩) j cx2)).run Try.prog w9.drew = .ok (.string (strB L)) w9.drew := by
            rw [HJ.out]
            refine run_convert_bytes_back (P := Try.prog) w9.drew 39 9 5 ⟨gx2, 0, none⟩ cx2 L Try.underlying39 Try.underlying5 Try.underlying9 (fun k hk => ?_)
            rw [Addr.add_mid, Nat.zero_add]
            have := (HM1.out.1.c2 (x := k) (show k < Q.room by omega)).1
            rw [show ({ Q with ap := ap1 } : Rq).ap k = ap1 k from rfl, HL.out.has k _ (List.getElem?_eq_getElem hk)] at this
            exact this
          obtain ⟨ss, hss⟩ : ∃ x, x = strB Q.bs := ⟨_, rfl⟩
          obtain ⟨sl, hsl⟩ : ∃ x, x = strB L := ⟨_, rfl⟩
          rw [← hsl] at hcv
          have hcc : ¬ 9223372036854775807 < ss.size + sl.size := by rw [hss, hsl, strB_size, strB_size]; have := HBL.out; omega
          obtain ⟨s2, hs2⟩ : ∃ x, x = ss ++ sl := ⟨_, rfl⟩
          have HS2 : Hid (s2 = strB (Q.bs ++ L)) := by
            show _ = _
            rw [hs2, hss, hsl]
            apply ByteArray.ext
            simp [strB, ByteArray.data_append]
          have HSA : Hid (ss ++ sl = s2) := hs2.symm
          have hA9 : At w9 r #[.int .i64 Q.next, .int .i64 (Q.room : Int), .string ss, .slice (some ⟨gx1, 0, none⟩) Q.room cx1, .slice (some ⟨gx2, 0, none⟩) Q.room cx2] := by rw [hss]; exact HM1.out.1.at5
          have hT9 := HM1.out.2
          clear hss hsl hs2 HM1 k1 k3
          obtain ⟨m2, m2f⟩ : w9.drew.cell? ⟨r, 2, none⟩ = some (.string ss) ∧ w9.drew.frozen? ⟨r, 2, none⟩ = false := hA9.2 2 _ rfl
          have m4 : w9.drew.cell? ⟨r, 4, none⟩ = some (.slice (some ⟨gx2, 0, none⟩) Q.room cx2) := (hA9.2 4 _ rfl).1
          have hjc : j ≤ cx2 := by omega
          have hjI : (j : Int) ≤ (cx2 : Int) := by omega
          have ht10 : Turn (fun k => k = r) w9 (w9.setCell ⟨r, 2, none⟩ (.string s2)).drew := (turn_set w9 r 2 _).later (Below.refl _ _).drew
          have HA10 : Hid (At (w9.setCell ⟨r, 2, none⟩ (.string s2)).drew r #[.int .i64 Q.next, .int .i64 (Q.room : Int), .string s2, .slice (some ⟨gx1, 0, none⟩) Q.room cx1, .slice (some ⟨gx2, 0, none⟩) Q.room cx2] ∧ VBo (w9.setCell ⟨r, 2, none⟩ (.string s2)).drew (.slice (some ⟨gx1, 0, none⟩) Q.room cx1) (hereL { Q with ap := ap1 }) ∧ VBy (w9.setCell ⟨r, 2, none⟩ (.string s2)).drew (.slice (some ⟨gx2, 0, none⟩) Q.room cx2) (byL { Q with ap := ap1 }) ∧ Turn (fun k => k = r ∨ w.heap.size ≤ k) w (w9.setCell ⟨r, 2, none⟩ (.string s2)).drew) :=
            ⟨(hA9.set 2 _).later (Below.refl _ _).drew, hV1.turn ht10 (fun k hk e => by cases hk; have e' : gx1 = r := e; omega), hV2.turn ht10 (fun k hk e => by cases hk; have e' : gx2 = r := e; omega), hT9.trans (ht10.mono (fun k e => Or.inl e))⟩
          clear ht10 hA9 hV1 hV2 hT9
          go_upto_region 16 with fail
          refine wp_region_held_drew (S := (fun _ => True)) (by kernel_rfl) ?_ (fun hHeld => ?_)
          · first | exact trivial | assumption
          refine wpAnyH_take (i := 0) (oi := ({ dst := some 120, op := Go.Op.move (Go.Operand.tmp 0), type := 28, pos := "ref.go:62", after := #[], guard := none } : Go.Oper)) (v := .pointer (some ⟨r, 0, none⟩)) rfl (by kernel_rfl) (by kernel_rfl) (by kernel_rfl) (fun _ _ _ h => h) (Or.inl ⟨by rfl, ?_⟩) (by assumption) ?_
          · intro wx hSw
            try dsimp only at hSw
            go_simp
            try with_reducible rfl
          try simp only [Act.put, List.setIfInBounds_toArray, List.set_cons_zero, List.set_cons_succ]
          refine wpAnyH_take (i := 1) (oi := ({ dst := some 121, op := Go.Op.nilCheck (Go.Operand.tmp 120), type := 0, pos := "ref.go:62", after := #[{ on := 0, ground := Go.Ground.data }], guard := none } : Go.Oper)) (v := .pointer (some ⟨r, 0, none⟩)) rfl (by kernel_rfl) (by kernel_rfl) (by kernel_rfl) (fun _ _ _ h => h) (Or.inl ⟨by rfl, ?_⟩) (by assumption) ?_
          · intro wx hSw
            try dsimp only at hSw
            go_simp
            try with_reducible rfl
          try simp only [Act.put, List.setIfInBounds_toArray, List.set_cons_zero, List.set_cons_succ]
          refine wpAnyH_take (i := 2) (oi := ({ dst := some 122, op := Go.Op.fieldAddr 41 (Go.Operand.tmp 121) 2, type := 0, pos := "ref.go:62", after := #[{ on := 1, ground := Go.Ground.data }], guard := none } : Go.Oper)) (v := .pointer (some ⟨r, 2, none⟩)) rfl (by kernel_rfl) (by kernel_rfl) (by kernel_rfl) (fun _ _ _ h => h) (Or.inl ⟨by rfl, ?_⟩) (by assumption) ?_
          · intro wx hSw
            try dsimp only at hSw
            go_simp
            try with_reducible rfl
          try simp only [Act.put, List.setIfInBounds_toArray, List.set_cons_zero, List.set_cons_succ]
          refine wpAnyH_take (i := 4) (oi := ({ dst := some 124, op := Go.Op.move (Go.Operand.tmp 0), type := 28, pos := "ref.go:62", after := #[], guard := none } : Go.Oper)) (v := .pointer (some ⟨r, 0, none⟩)) rfl (by kernel_rfl) (by kernel_rfl) (by kernel_rfl) (fun _ _ _ h => h) (Or.inl ⟨by rfl, ?_⟩) (by assumption) ?_
          · intro wx hSw
            try dsimp only at hSw
            go_simp
            try with_reducible rfl
          try simp only [Act.put, List.setIfInBounds_toArray, List.set_cons_zero, List.set_cons_succ]
          refine wpAnyH_take (i := 5) (oi := ({ dst := some 125, op := Go.Op.nilCheck (Go.Operand.tmp 124), type := 0, pos := "ref.go:62", after := #[{ on := 4, ground := Go.Ground.data }], guard := none } : Go.Oper)) (v := .pointer (some ⟨r, 0, none⟩)) rfl (by kernel_rfl) (by kernel_rfl) (by kernel_rfl) (fun _ _ _ h => h) (Or.inl ⟨by rfl, ?_⟩) (by assumption) ?_
          · intro wx hSw
            try dsimp only at hSw
            go_simp
            try with_reducible rfl
          try simp only [Act.put, List.setIfInBounds_toArray, List.set_cons_zero, List.set_cons_succ]
          refine wpAnyH_take (i := 6) (oi := ({ dst := some 126, op := Go.Op.fieldAddr 41 (Go.Operand.tmp 125) 4, type := 0, pos := "ref.go:62", after := #[{ on := 5, ground := Go.Ground.data }], guard := none } : Go.Oper)) (v := .pointer (some ⟨r, 4, none⟩)) rfl (by kernel_rfl) (by kernel_rfl) (by kernel_rfl) (fun _ _ _ h => h) (Or.inl ⟨by rfl, ?_⟩) (by assumption) ?_
          · intro wx hSw
            try dsimp only at hSw
            go_simp
            try with_reducible rfl
          try simp only [Act.put, List.setIfInBounds_toArray, List.set_cons_zero, List.set_cons_succ]
          refine wpAnyH_take (i := 8) (oi := ({ dst := some 128, op := Go.Op.move (Go.Operand.tmp 14), type := 3, pos := "ref.go:62", after := #[], guard := none } : Go.Oper)) (v := .int .i64 (j : Int)) rfl (by kernel_rfl) (by kernel_rfl) (by kernel_rfl) (fun _ _ _ h => h) (Or.inl ⟨by rfl, ?_⟩) (by assumption) ?_
          · intro wx hSw
            try dsimp only at hSw
            go_simp
            try with_reducible rfl
          try simp only [Act.put, List.setIfInBounds_toArray, List.set_cons_zero, List.set_cons_succ]
          refine wpAnyH_ready (rs := [3, 7]) (by kernel_rfl) (by simp) ?_
          refine AllReadyH.cons (o := ({ dst := some 123, op := Go.Op.load 9 (Go.Operand.tmp 122), type := 9, pos := "ref.go:62", after := #[{ on := 2, ground := Go.Ground.data }], guard := none } : Go.Oper)) rfl (fun K hK => ?_) (AllReadyH.cons (o := ({ dst := some 127, op := Go.Op.load 39 (Go.Operand.tmp 126), type := 39, pos := "ref.go:62", after := #[{ on := 6, ground := Go.Ground.data }], guard := none } : Go.Oper)) rfl (fun K hK => ?_) AllReadyH.nil)
          · go_simp
            refine hK.out _ _ trivial (fun hHeld => ?_)
            clear hK K
            try simp only [Act.put, List.setIfInBounds_toArray, List.set_cons_zero, List.set_cons_succ]
            refine wpAnyH_ready (rs := [7]) (by kernel_rfl) (by simp) ?_
            refine AllReadyH.cons (o := ({ dst := some 127, op := Go.Op.load 39 (Go.Operand.tmp 126), type := 39, pos := "ref.go:62", after := #[{ on := 6, ground := Go.Ground.data }], guard := none } : Go.Oper)) rfl (fun K hK => ?_) AllReadyH.nil
            · go_simp
              refine hK.out _ _ trivial (fun hHeld => ?_)
              clear hK K
              try simp only [Act.put, List.setIfInBounds_toArray, List.set_cons_zero, List.set_cons_succ]
              refine wpAnyH_take (i := 9) (oi := ({ dst := some 129, op := Go.Op.slice 39 (Go.Operand.tmp 127) none (some (Go.Operand.tmp 128)) none, type := 39, pos := "ref.go:62", after := #[{ on := 7, ground := Go.Ground.data }, { on := 8, ground := Go.Ground.data }], guard := none } : Go.Oper)) (v := .slice (some ⟨gx2, 0, none⟩) j cx2) rfl (by kernel_rfl) (by kernel_rfl) (by kernel_rfl) (fun _ _ _ h => h) (Or.inl ⟨by rfl, ?_⟩) (by assumption) ?_
              · intro wx hSw
                try dsimp only at hSw
                go_simp
                try with_reducible rfl
              try simp only [Act.put, List.setIfInBounds_toArray, List.set_cons_zero, List.set_cons_succ]
              refine wpAnyH_ready (rs := [10]) (by kernel_rfl) (by simp) ?_
              refine AllReadyH.cons (o := ({ dst := some 130, op := Go.Op.convert 39 9 (Go.Operand.tmp 129), type := 9, pos := "ref.go:62", after := #[{ on := 9, ground := Go.Ground.data }], guard := none } : Go.Oper)) rfl (fun K hK => ?_) AllReadyH.nil
              · go_simp
                refine hK.out _ _ trivial (fun hHeld => ?_)
                clear hK K
                try simp only [Act.put, List.setIfInBounds_toArray, List.set_cons_zero, List.set_cons_succ]
                refine wpAnyH_take (i := 11) (oi := ({ dst := some 131, op := Go.Op.binOp Go.BinOp.add 9 (Go.Operand.tmp 123) (Go.Operand.tmp 130) 9, type := 9, pos := "ref.go:62", after := #[{ on := 3, ground := Go.Ground.data }, { on := 10, ground := Go.Ground.data }], guard := none } : Go.Oper)) (v := .string (ss ++ sl)) rfl (by kernel_rfl) (by kernel_rfl) (by kernel_rfl) (fun _ _ _ h => h) (Or.inl ⟨by rfl, ?_⟩) (by assumption) ?_
                · intro wx hSw
                  try dsimp only at hSw
                  go_simp
                  try with_reducible rfl
                try simp only [Act.put, List.setIfInBounds_toArray, List.set_cons_zero, List.set_cons_succ]
                refine wpAnyH_take (i := 12) (oi := ({ dst := some 132, op := Go.Op.nilCheck (Go.Operand.tmp 120), type := 0, pos := "ref.go:62", after := #[{ on := 0, ground := Go.Ground.data }, { on := 0, ground := Go.Ground.phase }, { on := 1, ground := Go.Ground.phase }, { on := 2, ground := Go.Ground.phase }, { on := 3, ground := Go.Ground.phase }, { on := 4, ground := Go.Ground.phase }, { on := 5, ground := Go.Ground.phase }, { on := 6, ground := Go.Ground.phase }, { on := 7, ground := Go.Ground.phase }, { on := 8, ground := Go.Ground.phase }, { on := 9, ground := Go.Ground.phase }, { on := 10, ground := Go.Ground.phase }, { on := 11, ground := Go.Ground.phase }], guard := none } : Go.Oper)) (v := .pointer (some ⟨r, 0, none⟩)) rfl (by kernel_rfl) (by kernel_rfl) (by kernel_rfl) (fun _ _ _ h => h) (Or.inl ⟨by rfl, ?_⟩) (by assumption) ?_
                · intro wx hSw
                  try dsimp only at hSw
                  go_simp
                  try with_reducible rfl
                try simp only [Act.put, List.setIfInBounds_toArray, List.set_cons_zero, List.set_cons_succ]
                refine wpAnyH_take (i := 13) (oi := ({ dst := some 133, op := Go.Op.fieldAddr 41 (Go.Operand.tmp 132) 2, type := 0, pos := "ref.go:62", after := #[{ on := 12, ground := Go.Ground.data }, { on := 0, ground := Go.Ground.phase }, { on := 1, ground := Go.Ground.phase }, { on := 2, ground := Go.Ground.phase }, { on := 3, ground := Go.Ground.phase }, { on := 4, ground := Go.Ground.phase }, { on := 5, ground := Go.Ground.phase }, { on := 6, ground := Go.Ground.phase }, { on := 7, ground := Go.Ground.phase }, { on := 8, ground := Go.Ground.phase }, { on := 9, ground := Go.Ground.phase }, { on := 10, ground := Go.Ground.phase }, { on := 11, ground := Go.Ground.phase }], guard := none } : Go.Oper)) (v := .pointer (some ⟨r, 2, none⟩)) rfl (by kernel_rfl) (by kernel_rfl) (by kernel_rfl) (fun _ _ _ h => h) (Or.inl ⟨by rfl, ?_⟩) (by assumption) ?_
                · intro wx hSw
                  try dsimp only at hSw
                  go_simp
                  try with_reducible rfl
                try simp only [Act.put, List.setIfInBounds_toArray, List.set_cons_zero, List.set_cons_succ]
                refine wpAnyH_ready (rs := [14]) (by kernel_rfl) (by simp) ?_
                refine AllReadyH.cons (o := ({ dst := none, op := Go.Op.store 9 (Go.Operand.tmp 133) (Go.Operand.tmp 131), type := 0, pos := "ref.go:62", after := #[{ on := 13, ground := Go.Ground.data }, { on := 11, ground := Go.Ground.data }, { on := 0, ground := Go.Ground.phase }, { on := 1, ground := Go.Ground.phase }, { on := 2, ground := Go.Ground.phase }, { on := 3, ground := Go.Ground.phase }, { on := 4, ground := Go.Ground.phase }, { on := 5, ground := Go.Ground.phase }, { on := 6, ground := Go.Ground.phase }, { on := 7, ground := Go.Ground.phase }, { on := 8, ground := Go.Ground.phase }, { on := 9, ground := Go.Ground.phase }, { on := 10, ground := Go.Ground.phase }, { on := 11, ground := Go.Ground.phase }], guard := none } : Go.Oper)) rfl (fun K hK => ?_) AllReadyH.nil
                · go_simp
                  refine hK.out _ _ trivial (fun hHeld => ?_)
                  clear hK K
                  try simp only [Act.put, List.setIfInBounds_toArray, List.set_cons_zero, List.set_cons_succ]
                  refine wpAnyH_done (by kernel_rfl) ?_ _
                  clear m2 m2f m4 hcv hHeld
                  try rw [HSA.out]
                  go_upto_region 17 with fail
                  generalize (w9.setCell ⟨r, 2, none⟩ (.string s2)).drew = w10 at *
                  obtain ⟨hA10, hV1, hV2, hT10⟩ := HA10.out
                  clear HA10
                  obtain ⟨m0, m0f⟩ : w10.cell? ⟨r, 0, none⟩ = some (.int .i64 Q.next) ∧ w10.frozen? ⟨r, 0, none⟩ = false := hA10.2 0 _ rfl
                  have hwn : IntKind.i64.wrap (Q.next + (j : Int)) = Q.next + (j : Int) := by rw [IntKind.wrap_i64] <;> omega
                  have hmd := mod_any (Q.next + (j : Int)) w10
                  obtain ⟨nx2, hnx2⟩ : ∃ x, x = (Q.next + (j : Int)) % 4294967296 := ⟨_, rfl⟩
                  rw [← hnx2] at hmd
                  have HNX : Hid (nx2 = (Q.next + (j : Int)) % 4294967296) := hnx2
                  clear hnx2
                  go_wp2_with fail
                  refine hmd.mono ?_
                  rintro e wy ⟨rfl, hwy⟩
                  subst hwy
                  obtain ⟨w10, hw10⟩ : ∃ x, x = wy := ⟨wy, rfl⟩
                  subst hw10
                  go_upto_region 18 with fail
                  have ht11 := turn_set w10 r 0 (.int .i64 nx2)
                  have hA11 := hA10.set 0 (.int .i64 nx2)
                  have hV1 := hV1.turn ht11 (fun k hk e => by cases hk; have e' : gx1 = r := e; omega)
                  have hV2 := hV2.turn ht11 (fun k hk e => by cases hk; have e' : gx2 = r := e; omega)
                  have hT11 := hT10.trans (ht11.mono (fun k e => Or.inl e))
                  clear m0 m0f hmd ht11 hT10 hA10
                  generalize w10.setCell ⟨r, 0, none⟩ (.int .i64 nx2) = w11 at *
                  have kx2 : gx2 < w11.heap.size := hV2.lt rfl
                  obtain ⟨v3, hsl3, hV3, hown3⟩ := hV1.from_ j (by rw [hereL_len]; exact hjr)
                  have hl3 : ((hereL { Q with ap := ap1 }).drop j).length = Q.room - j := by rw [List.length_drop, hereL_len]
                  obtain ⟨v3z, w12, ez3, hV3z, hgr3, hloc3⟩ := hV3.zeros j (by omega) (by rw [hl3]; omega) 38
                  obtain ⟨a3, o3, c3, hv3, -⟩ := hV3.shape
                  subst hv3
                  obtain ⟨a3z, o3z, c3z, hv3z, -⟩ := hV3z.shape
                  rw [show ((hereL { Q with ap := ap1 }).drop j ++ List.replicate j false) = hereL (goQ Q ap1 L) by rw [HJ.out]; exact here_shift hLr HPW.out] at hV3z hv3z
                  rw [hereL_len, show (goQ Q ap1 L).room = Q.room from rfl] at hv3z
                  subst hv3z
                  have ht12 : Turn (fun k => k = gx1) w11 w12 := Turn.of_grown hgr3 (fun k hk => by rw [hown3] at hk; cases hk; exact Or.inl rfl)
                  have hA12 := hA11.turn ht12 (fun e => by omega)
                  have hV2 := hV2.turn ht12 (fun k hk e => by cases hk; exact k5 e.symm)
                  have hT12 := hT11.trans (ht12.mono (fun k e => Or.inr (by omega)))
                  have hs11 : w.heap.size ≤ w11.heap.size := hT11.size
                  have m3 : w11.cell? ⟨r, 3, none⟩ = some (.slice (some ⟨gx1, 0, none⟩) Q.room cx1) := (hA11.2 3 _ rfl).1
                  obtain ⟨n3, n3f⟩ : w12.cell? ⟨r, 3, none⟩ = some (.slice (some ⟨gx1, 0, none⟩) Q.room cx1) ∧ w12.frozen? ⟨r, 3, none⟩ = false := hA12.2 3 _ rfl
                  have hloc3' : ∀ k, (Value.slice (some ⟨a3z, o3z, none⟩) Q.room c3z).ownBlock = some k → w.heap.size ≤ k ∧ k ≠ gx2 := fun k hk => by
                    rcases hloc3 with e | e
                    · rw [e, hown3] at hk; cases hk; exact ⟨k1', k5⟩
                    · rw [e] at hk; cases hk
                      exact ⟨hs11, by omega⟩
                  clear hV3 hgr3 hloc3 hown3 hV1 hl3
                  generalize ((hereL { Q with ap := ap1 }).drop j).length = nl3 at hsl3 ez3
                  go_upto_region 19 with (first | (at_builtin; refine wpList_append_eq rfl _ _ rfl rfl rfl ez3 ?_) | go_in)
                  have ht13 := turn_set w12 r 3 (.slice (some ⟨a3z, o3z, none⟩) Q.room c3z)
                  have hA13 := hA12.set 3 (.slice (some ⟨a3z, o3z, none⟩) Q.room c3z)
                  have hV3z := hV3z.turn ht13 (fun k hk e => by have := hloc3' k hk; omega)
                  have hV2 := hV2.turn ht13 (fun k hk e => by cases hk; have e' : gx2 = r := e; omega)
                  have hT13 := hT12.trans (ht13.mono (fun k e => Or.inl e))
                  clear m3 n3 n3f hsl3 ez3 ht12 ht13 hA11 hA12 hT11 hT12
                  generalize w12.setCell ⟨r, 3, none⟩ (.slice (some ⟨a3z, o3z, none⟩) Q.room c3z) = w13 at *
                  obtain ⟨v4, hsl4, hV4, hown4⟩ := hV2.from_ j (by rw [byL_len]; exact hjr)
                  have hl4 : ((byL { Q with ap := ap1 }).drop j).length = Q.room - j := by rw [List.length_drop, byL_len]
                  obtain ⟨v4z, w14, ez4, hV4z, hgr4, hloc4⟩ := hV4.zeros j (by omega) (by rw [hl4]; omega) 39
                  obtain ⟨a4, o4, c4, hv4, -⟩ := hV4.shape
                  subst hv4
                  obtain ⟨a4z, o4z, c4z, hv4z, -⟩ := hV4z.shape
                  rw [show ((byL { Q with ap := ap1 }).drop j ++ List.replicate j 0) = byL (goQ Q ap1 L) by rw [HJ.out]; exact by_shift hLr HPW.out] at hV4z hv4z
                  rw [byL_len, show (goQ Q ap1 L).room = Q.room from rfl] at hv4z
                  subst hv4z
                  have ht14 : Turn (fun k => k = gx2) w13 w14 := Turn.of_grown hgr4 (fun k hk => by rw [hown4] at hk; cases hk; exact Or.inl rfl)
                  have hA14 := hA13.turn ht14 (fun e => by omega)
                  have hV3z := hV3z.turn ht14 (fun k hk e => (hloc3' k hk).2 e)
                  have hT14 := hT13.trans (ht14.mono (fun k e => Or.inr (by omega)))
                  have hs13 : w.heap.size ≤ w13.heap.size := hT13.size
                  have m4 : w13.cell? ⟨r, 4, none⟩ = some (.slice (some ⟨gx2, 0, none⟩) Q.room cx2) := (hA13.2 4 _ rfl).1
                  obtain ⟨n4, n4f⟩ : w14.cell? ⟨r, 4, none⟩ = some (.slice (some ⟨gx2, 0, none⟩) Q.room cx2) ∧ w14.frozen? ⟨r, 4, none⟩ = false := hA14.2 4 _ rfl
                  have hloc4' : ∀ k, (Value.slice (some ⟨a4z, o4z, none⟩) Q.room c4z).ownBlock = some k → w.heap.size ≤ k := fun k hk => by
                    rcases hloc4 with e | e
                    · rw [e, hown4] at hk; cases hk; exact k2'
                    · rw [e] at hk; cases hk
                      exact hs13
                  clear hV4 hgr4 hloc4 hown4 hV2 hl4
                  generalize ((byL { Q with ap := ap1 }).drop j).length = nl4 at hsl4 ez4
                  have ht15 := turn_set w14 r 4 (.slice (some ⟨a4z, o4z, none⟩) Q.room c4z)
                  have hA15 := hA14.set 4 (.slice (some ⟨a4z, o4z, none⟩) Q.room c4z)
                  have hV3z := hV3z.turn ht15 (fun k hk e => by have := hloc3' k hk; omega)
                  have hV4z := hV4z.turn ht15 (fun k hk e => by have := hloc4' k hk; omega)
                  have hT15 := hT14.trans (ht15.mono (fun k e => Or.inl e))
                  have HF : Hid (∃ A', RX (w14.setCell ⟨r, 4, none⟩ (.slice (some ⟨a4z, o4z, none⟩) Q.room c4z)) A' r (goQ Q ap1 L) ∧ Turn A w (w14.setCell ⟨r, 4, none⟩ (.slice (some ⟨a4z, o4z, none⟩) Q.room c4z)) ∧ Gr w.heap.size A A') := by
                    refine ⟨fun k => k = r ∨ (w.heap.size ≤ k ∧ k < (w14.setCell ⟨r, 4, none⟩ (.slice (some ⟨a4z, o4z, none⟩) Q.room c4z)).heap.size), ⟨_, _, ?_, hV3z, hV4z, Or.inl rfl, (fun k hk => ?_), (fun k hk => ?_), ?_⟩, ?_, ?_⟩
                    · have e1 := HNX.out
                      have e2 := HS2.out
                      rw [HJ.out] at e1
                      subst e1 e2
                      exact hA15
                    · have g1 := hloc3' k hk
                      exact ⟨Or.inr ⟨g1.1, hV3z.lt hk⟩, by omega⟩
                    · have g1 := hloc4' k hk
                      exact ⟨Or.inr ⟨g1, hV4z.lt hk⟩, by omega⟩
                    · rintro k (e | e)
                      · rw [e]; exact hA15.1
                      · exact e.2
                    · exact ⟨hT15.os, hT15.tape, hT15.output, hT15.size, fun k hk hn => hT15.block k hk (fun e => by rcases e with e | e; exact hn (by rw [e]; exact h.ar); omega)⟩
                    · rintro k (e | e)
                      · exact Or.inl (by rw [e]; exact h.ar)
                      · exact Or.inr e.1
                  clear hA13 hA14 hA15 hV3z hV4z hT13 hT14 hT15 ht14 ht15
                  go_wp2_with (first | (at_builtin; refine wpList_append_eq rfl _ _ rfl rfl rfl ez4 ?_) | go_in)
                  go_ret2
                  have hF := HF.out
                  rw [HAP.out] at hF
                  exact ⟨by rw [HJ.out]; rfl, hF⟩
          · go_simp
            refine hK.out _ _ trivial (fun hHeld => ?_)
            clear hK K
            try simp only [Act.put, List.setIfInBounds_toArray, List.set_cons_zero, List.set_cons_succ]
            refine wpAnyH_take (i := 9) (oi := ({ dst := some 129, op := Go.Op.slice 39 (Go.Operand.tmp 127) none (some (Go.Operand.tmp 128)) none, type := 39, pos := "ref.go:62", after := #[{ on := 7, ground := Go.Ground.data }, { on := 8, ground := Go.Ground.data }], guard := none } : Go.Oper)) (v := .slice (some ⟨gx2, 0, none⟩) j cx2) rfl (by kernel_rfl) (by kernel_rfl) (by kernel_rfl) (fun _ _ _ h => h) (Or.inl ⟨by rfl, ?_⟩) (by assumption) ?_
            · intro wx hSw
              try dsimp only at hSw
              go_simp
              try with_reducible rfl
            try simp only [Act.put, List.setIfInBounds_toArray, List.set_cons_zero, List.set_cons_succ]
            refine wpAnyH_ready (rs := [3, 10]) (by kernel_rfl) (by simp) ?_
            refine AllReadyH.cons (o := ({ dst := some 123, op := Go.Op.load 9 (Go.Operand.tmp 122), type := 9, pos := "ref.go:62", after := #[{ on := 2, ground := Go.Ground.data }], guard := none } : Go.Oper)) rfl (fun K hK => ?_) (AllReadyH.cons (o := ({ dst := some 130, op := Go.Op.convert 39 9 (Go.Operand.tmp 129), type := 9, pos := "ref.go:62", after := #[{ on := 9, ground := Go.Ground.data }], guard := none } : Go.Oper)) rfl (fun K hK => ?_) AllReadyH.nil)
            · go_simp
              refine hK.out _ _ trivial (fun hHeld => ?_)
              clear hK K
              try simp only [Act.put, List.setIfInBounds_toArray, List.set_cons_zero, List.set_cons_succ]
              refine wpAnyH_ready (rs := [10]) (by kernel_rfl) (by simp) ?_
              refine AllReadyH.cons (o := ({ dst := some 130, op := Go.Op.convert 39 9 (Go.Operand.tmp 129), type := 9, pos := "ref.go:62", after := #[{ on := 9, ground := Go.Ground.data }], guard := none } : Go.Oper)) rfl (fun K hK => ?_) AllReadyH.nil
              · go_simp
                refine hK.out _ _ trivial (fun hHeld => ?_)
                clear hK K
                try simp only [Act.put, List.setIfInBounds_toArray, List.set_cons_zero, List.set_cons_succ]
                refine wpAnyH_take (i := 11) (oi := ({ dst := some 131, op := Go.Op.binOp Go.BinOp.add 9 (Go.Operand.tmp 123) (Go.Operand.tmp 130) 9, type := 9, pos := "ref.go:62", after := #[{ on := 3, ground := Go.Ground.data }, { on := 10, ground := Go.Ground.data }], guard := none } : Go.Oper)) (v := .string (ss ++ sl)) rfl (by kernel_rfl) (by kernel_rfl) (by kernel_rfl) (fun _ _ _ h => h) (Or.inl ⟨by rfl, ?_⟩) (by assumption) ?_
                · intro wx hSw
                  try dsimp only at hSw
                  go_simp
                  try with_reducible rfl
                try simp only [Act.put, List.setIfInBounds_toArray, List.set_cons_zero, List.set_cons_succ]
                refine wpAnyH_take (i := 12) (oi := ({ dst := some 132, op := Go.Op.nilCheck (Go.Operand.tmp 120), type := 0, pos := "ref.go:62", after := #[{ on := 0, ground := Go.Ground.data }, { on := 0, ground := Go.Ground.phase }, { on := 1, ground := Go.Ground.phase }, { on := 2, ground := Go.Ground.phase }, { on := 3, ground := Go.Ground.phase }, { on := 4, ground := Go.Ground.phase }, { on := 5, ground := Go.Ground.phase }, { on := 6, ground := Go.Ground.phase }, { on := 7, ground := Go.Ground.phase }, { on := 8, ground := Go.Ground.phase }, { on := 9, ground := Go.Ground.phase }, { on := 10, ground := Go.Ground.phase }, { on := 11, ground := Go.Ground.phase }], guard := none } : Go.Oper)) (v := .pointer (some ⟨r, 0, none⟩)) rfl (by kernel_rfl) (by kernel_rfl) (by kernel_rfl) (fun _ _ _ h => h) (Or.inl ⟨by rfl, ?_⟩) (by assumption) ?_
                · intro wx hSw
                  try dsimp only at hSw
                  go_simp
                  try with_reducible rfl
                try simp only [Act.put, List.setIfInBounds_toArray, List.set_cons_zero, List.set_cons_succ]
                refine wpAnyH_take (i := 13) (oi := ({ dst := some 133, op := Go.Op.fieldAddr 41 (Go.Operand.tmp 132) 2, type := 0, pos := "ref.go:62", after := #[{ on := 12, ground := Go.Ground.data }, { on := 0, ground := Go.Ground.phase }, { on := 1, ground := Go.Ground.phase }, { on := 2, ground := Go.Ground.phase }, { on := 3, ground := Go.Ground.phase }, { on := 4, ground := Go.Ground.phase }, { on := 5, ground := Go.Ground.phase }, { on := 6, ground := Go.Ground.phase }, { on := 7, ground := Go.Ground.phase }, { on := 8, ground := Go.Ground.phase }, { on := 9, ground := Go.Ground.phase }, { on := 10, ground := Go.Ground.phase }, { on := 11, ground := Go.Ground.phase }], guard := none } : Go.Oper)) (v := .pointer (some ⟨r, 2, none⟩)) rfl (by kernel_rfl) (by kernel_rfl) (by kernel_rfl) (fun _ _ _ h => h) (Or.inl ⟨by rfl, ?_⟩) (by assumption) ?_
                · intro wx hSw
                  try dsimp only at hSw
                  go_simp
                  try with_reducible rfl
                try simp only [Act.put, List.setIfInBounds_toArray, List.set_cons_zero, List.set_cons_succ]
                refine wpAnyH_ready (rs := [14]) (by kernel_rfl) (by simp) ?_
                refine AllReadyH.cons (o := ({ dst := none, op := Go.Op.store 9 (Go.Operand.tmp 133) (Go.Operand.tmp 131), type := 0, pos := "ref.go:62", after := #[{ on := 13, ground := Go.Ground.data }, { on := 11, ground := Go.Ground.data }, { on := 0, ground := Go.Ground.phase }, { on := 1, ground := Go.Ground.phase }, { on := 2, ground := Go.Ground.phase }, { on := 3, ground := Go.Ground.phase }, { on := 4, ground := Go.Ground.phase }, { on := 5, ground := Go.Ground.phase }, { on := 6, ground := Go.Ground.phase }, { on := 7, ground := Go.Ground.phase }, { on := 8, ground := Go.Ground.phase }, { on := 9, ground := Go.Ground.phase }, { on := 10, ground := Go.Ground.phase }, { on := 11, ground := Go.Ground.phase }], guard := none } : Go.Oper)) rfl (fun K hK => ?_) AllReadyH.nil
                · go_simp
                  refine hK.out _ _ trivial (fun hHeld => ?_)
                  clear hK K
                  try simp only [Act.put, List.setIfInBounds_toArray, List.set_cons_zero, List.set_cons_succ]
                  refine wpAnyH_done (by kernel_rfl) ?_ _
                  clear m2 m2f m4 hcv hHeld
                  try rw [HSA.out]
                  go_upto_region 17 with fail
                  generalize (w9.setCell ⟨r, 2, none⟩ (.string s2)).drew = w10 at *
                  obtain ⟨hA10, hV1, hV2, hT10⟩ := HA10.out
                  clear HA10
                  obtain ⟨m0, m0f⟩ : w10.cell? ⟨r, 0, none⟩ = some (.int .i64 Q.next) ∧ w10.frozen? ⟨r, 0, none⟩ = false := hA10.2 0 _ rfl
                  have hwn : IntKind.i64.wrap (Q.next + (j : Int)) = Q.next + (j : Int) := by rw [IntKind.wrap_i64] <;> omega
                  have hmd := mod_any (Q.next + (j : Int)) w10
                  obtain ⟨nx2, hnx2⟩ : ∃ x, x = (Q.next + (j : Int)) % 4294967296 := ⟨_, rfl⟩
                  rw [← hnx2] at hmd
                  have HNX : Hid (nx2 = (Q.next + (j : Int)) % 4294967296) := hnx2
                  clear hnx2
                  go_wp2_with fail
                  refine hmd.mono ?_
                  rintro e wy ⟨rfl, hwy⟩
                  subst hwy
                  obtain ⟨w10, hw10⟩ : ∃ x, x = wy := ⟨wy, rfl⟩
                  subst hw10
                  go_upto_region 18 with fail
                  have ht11 := turn_set w10 r 0 (.int .i64 nx2)
                  have hA11 := hA10.set 0 (.int .i64 nx2)
                  have hV1 := hV1.turn ht11 (fun k hk e => by cases hk; have e' : gx1 = r := e; omega)
                  have hV2 := hV2.turn ht11 (fun k hk e => by cases hk; have e' : gx2 = r := e; omega)
                  have hT11 := hT10.trans (ht11.mono (fun k e => Or.inl e))
                  clear m0 m0f hmd ht11 hT10 hA10
                  generalize w10.setCell ⟨r, 0, none⟩ (.int .i64 nx2) = w11 at *
                  have kx2 : gx2 < w11.heap.size := hV2.lt rfl
                  obtain ⟨v3, hsl3, hV3, hown3⟩ := hV1.from_ j (by rw [hereL_len]; exact hjr)
                  have hl3 : ((hereL { Q with ap := ap1 }).drop j).length = Q.room - j := by rw [List.length_drop, hereL_len]
                  obtain ⟨v3z, w12, ez3, hV3z, hgr3, hloc3⟩ := hV3.zeros j (by omega) (by rw [hl3]; omega) 38
                  obtain ⟨a3, o3, c3, hv3, -⟩ := hV3.shape
                  subst hv3
                  obtain ⟨a3z, o3z, c3z, hv3z, -⟩ := hV3z.shape
                  rw [show ((hereL { Q with ap := ap1 }).drop j ++ List.replicate j false) = hereL (goQ Q ap1 L) by rw [HJ.out]; exact here_shift hLr HPW.out] at hV3z hv3z
                  rw [hereL_len, show (goQ Q ap1 L).room = Q.room from rfl] at hv3z
                  subst hv3z
                  have ht12 : Turn (fun k => k = gx1) w11 w12 := Turn.of_grown hgr3 (fun k hk => by rw [hown3] at hk; cases hk; exact Or.inl rfl)
                  have hA12 := hA11.turn ht12 (fun e => by omega)
                  have hV2 := hV2.turn ht12 (fun k hk e => by cases hk; exact k5 e.symm)
                  have hT12 := hT11.trans (ht12.mono (fun k e => Or.inr (by omega)))
                  have hs11 : w.heap.size ≤ w11.heap.size := hT11.size
                  have m3 : w11.cell? ⟨r, 3, none⟩ = some (.slice (some ⟨gx1, 0, none⟩) Q.room cx1) := (hA11.2 3 _ rfl).1
                  obtain ⟨n3, n3f⟩ : w12.cell? ⟨r, 3, none⟩ = some (.slice (some ⟨gx1, 0, none⟩) Q.room cx1) ∧ w12.frozen? ⟨r, 3, none⟩ = false := hA12.2 3 _ rfl
                  have hloc3' : ∀ k, (Value.slice (some ⟨a3z, o3z, none⟩) Q.room c3z).ownBlock = some k → w.heap.size ≤ k ∧ k ≠ gx2 := fun k hk => by
                    rcases hloc3 with e | e
                    · rw [e, hown3] at hk; cases hk; exact ⟨k1', k5⟩
                    · rw [e] at hk; cases hk
                      exact ⟨hs11, by omega⟩
                  clear hV3 hgr3 hloc3 hown3 hV1 hl3
                  generalize ((hereL { Q with ap := ap1 }).drop j).length = nl3 at hsl3 ez3
                  go_upto_region 19 with (first | (at_builtin; refine wpList_append_eq rfl _ _ rfl rfl rfl ez3 ?_) | go_in)
                  have ht13 := turn_set w12 r 3 (.slice (some ⟨a3z, o3z, none⟩) Q.room c3z)
                  have hA13 := hA12.set 3 (.slice (some ⟨a3z, o3z, none⟩) Q.room c3z)
                  have hV3z := hV3z.turn ht13 (fun k hk e => by have := hloc3' k hk; omega)
                  have hV2 := hV2.turn ht13 (fun k hk e => by cases hk; have e' : gx2 = r := e; omega)
                  have hT13 := hT12.trans (ht13.mono (fun k e => Or.inl e))
                  clear m3 n3 n3f hsl3 ez3 ht12 ht13 hA11 hA12 hT11 hT12
                  generalize w12.setCell ⟨r, 3, none⟩ (.slice (some ⟨a3z, o3z, none⟩) Q.room c3z) = w13 at *
                  obtain ⟨v4, hsl4, hV4, hown4⟩ := hV2.from_ j (by rw [byL_len]; exact hjr)
                  have hl4 : ((byL { Q with ap := ap1 }).drop j).length = Q.room - j := by rw [List.length_drop, byL_len]
                  obtain ⟨v4z, w14, ez4, hV4z, hgr4, hloc4⟩ := hV4.zeros j (by omega) (by rw [hl4]; omega) 39
                  obtain ⟨a4, o4, c4, hv4, -⟩ := hV4.shape
                  subst hv4
                  obtain ⟨a4z, o4z, c4z, hv4z, -⟩ := hV4z.shape
                  rw [show ((byL { Q with ap := ap1 }).drop j ++ List.replicate j 0) = byL (goQ Q ap1 L) by rw [HJ.out]; exact by_shift hLr HPW.out] at hV4z hv4z
                  rw [byL_len, show (goQ Q ap1 L).room = Q.room from rfl] at hv4z
                  subst hv4z
                  have ht14 : Turn (fun k => k = gx2) w13 w14 := Turn.of_grown hgr4 (fun k hk => by rw [hown4] at hk; cases hk; exact Or.inl rfl)
                  have hA14 := hA13.turn ht14 (fun e => by omega)
                  have hV3z := hV3z.turn ht14 (fun k hk e => (hloc3' k hk).2 e)
                  have hT14 := hT13.trans (ht14.mono (fun k e => Or.inr (by omega)))
                  have hs13 : w.heap.size ≤ w13.heap.size := hT13.size
                  have m4 : w13.cell? ⟨r, 4, none⟩ = some (.slice (some ⟨gx2, 0, none⟩) Q.room cx2) := (hA13.2 4 _ rfl).1
                  obtain ⟨n4, n4f⟩ : w14.cell? ⟨r, 4, none⟩ = some (.slice (some ⟨gx2, 0, none⟩) Q.room cx2) ∧ w14.frozen? ⟨r, 4, none⟩ = false := hA14.2 4 _ rfl
                  have hloc4' : ∀ k, (Value.slice (some ⟨a4z, o4z, none⟩) Q.room c4z).ownBlock = some k → w.heap.size ≤ k := fun k hk => by
                    rcases hloc4 with e | e
                    · rw [e, hown4] at hk; cases hk; exact k2'
                    · rw [e] at hk; cases hk
                      exact hs13
                  clear hV4 hgr4 hloc4 hown4 hV2 hl4
                  generalize ((byL { Q with ap := ap1 }).drop j).length = nl4 at hsl4 ez4
                  have ht15 := turn_set w14 r 4 (.slice (some ⟨a4z, o4z, none⟩) Q.room c4z)
                  have hA15 := hA14.set 4 (.slice (some ⟨a4z, o4z, none⟩) Q.room c4z)
                  have hV3z := hV3z.turn ht15 (fun k hk e => by have := hloc3' k hk; omega)
                  have hV4z := hV4z.turn ht15 (fun k hk e => by have := hloc4' k hk; omega)
                  have hT15 := hT14.trans (ht15.mono (fun k e => Or.inl e))
                  have HF : Hid (∃ A', RX (w14.setCell ⟨r, 4, none⟩ (.slice (some ⟨a4z, o4z, none⟩) Q.room c4z)) A' r (goQ Q ap1 L) ∧ Turn A w (w14.setCell ⟨r, 4, none⟩ (.slice (some ⟨a4z, o4z, none⟩) Q.room c4z)) ∧ Gr w.heap.size A A') := by
                    refine ⟨fun k => k = r ∨ (w.heap.size ≤ k ∧ k < (w14.setCell ⟨r, 4, none⟩ (.slice (some ⟨a4z, o4z, none⟩) Q.room c4z)).heap.size), ⟨_, _, ?_, hV3z, hV4z, Or.inl rfl, (fun k hk => ?_), (fun k hk => ?_), ?_⟩, ?_, ?_⟩
                    · have e1 := HNX.out
                      have e2 := HS2.out
                      rw [HJ.out] at e1
                      subst e1 e2
                      exact hA15
                    · have g1 := hloc3' k hk
                      exact ⟨Or.inr ⟨g1.1, hV3z.lt hk⟩, by omega⟩
                    · have g1 := hloc4' k hk
                      exact ⟨Or.inr ⟨g1, hV4z.lt hk⟩, by omega⟩
                    · rintro k (e | e)
                      · rw [e]; exact hA15.1
                      · exact e.2
                    · exact ⟨hT15.os, hT15.tape, hT15.output, hT15.size, fun k hk hn => hT15.block k hk (fun e => by rcases e with e | e; exact hn (by rw [e]; exact h.ar); omega)⟩
                    · rintro k (e | e)
                      · exact Or.inl (by rw [e]; exact h.ar)
                      · exact Or.inr e.1
                  clear hA13 hA14 hA15 hV3z hV4z hT13 hT14 hT15 ht14 ht15
                  go_wp2_with (first | (at_builtin; refine wpList_append_eq rfl _ _ rfl rfl rfl ez4 ?_) | go_in)
                  go_ret2
                  have hF := HF.out
                  rw [HAP.out] at hF
                  exact ⟨by rw [HJ.out]; rfl, hF⟩
            · go_simp
              refine hK.out _ _ trivial (fun hHeld => ?_)
              clear hK K
              try simp only [Act.put, List.setIfInBounds_toArray, List.set_cons_zero, List.set_cons_succ]
              refine wpAnyH_ready (rs := [3]) (by kernel_rfl) (by simp) ?_
              refine AllReadyH.cons (o := ({ dst := some 123, op := Go.Op.load 9 (Go.Operand.tmp 122), type := 9, pos := "ref.go:62", after := #[{ on := 2, ground := Go.Ground.data }], guard := none } : Go.Oper)) rfl (fun K hK => ?_) AllReadyH.nil
              · go_simp
                refine hK.out _ _ trivial (fun hHeld => ?_)
                clear hK K
                try simp only [Act.put, List.setIfInBounds_toArray, List.set_cons_zero, List.set_cons_succ]
                refine wpAnyH_take (i := 11) (oi := ({ dst := some 131, op := Go.Op.binOp Go.BinOp.add 9 (Go.Operand.tmp 123) (Go.Operand.tmp 130) 9, type := 9, pos := "ref.go:62", after := #[{ on := 3, ground := Go.Ground.data }, { on := 10, ground := Go.Ground.data }], guard := none } : Go.Oper)) (v := .string (ss ++ sl)) rfl (by kernel_rfl) (by kernel_rfl) (by kernel_rfl) (fun _ _ _ h => h) (Or.inl ⟨by rfl, ?_⟩) (by assumption) ?_
                · intro wx hSw
                  try dsimp only at hSw
                  go_simp
                  try with_reducible rfl
                try simp only [Act.put, List.setIfInBounds_toArray, List.set_cons_zero, List.set_cons_succ]
                refine wpAnyH_take (i := 12) (oi := ({ dst := some 132, op := Go.Op.nilCheck (Go.Operand.tmp 120), type := 0, pos := "ref.go:62", after := #[{ on := 0, ground := Go.Ground.data }, { on := 0, ground := Go.Ground.phase }, { on := 1, ground := Go.Ground.phase }, { on := 2, ground := Go.Ground.phase }, { on := 3, ground := Go.Ground.phase }, { on := 4, ground := Go.Ground.phase }, { on := 5, ground := Go.Ground.phase }, { on := 6, ground := Go.Ground.phase }, { on := 7, ground := Go.Ground.phase }, { on := 8, ground := Go.Ground.phase }, { on := 9, ground := Go.Ground.phase }, { on := 10, ground := Go.Ground.phase }, { on := 11, ground := Go.Ground.phase }], guard := none } : Go.Oper)) (v := .pointer (some ⟨r, 0, none⟩)) rfl (by kernel_rfl) (by kernel_rfl) (by kernel_rfl) (fun _ _ _ h => h) (Or.inl ⟨by rfl, ?_⟩) (by assumption) ?_
                · intro wx hSw
                  try dsimp only at hSw
                  go_simp
                  try with_reducible rfl
                try simp only [Act.put, List.setIfInBounds_toArray, List.set_cons_zero, List.set_cons_succ]
                refine wpAnyH_take (i := 13) (oi := ({ dst := some 133, op := Go.Op.fieldAddr 41 (Go.Operand.tmp 132) 2, type := 0, pos := "ref.go:62", after := #[{ on := 12, ground := Go.Ground.data }, { on := 0, ground := Go.Ground.phase }, { on := 1, ground := Go.Ground.phase }, { on := 2, ground := Go.Ground.phase }, { on := 3, ground := Go.Ground.phase }, { on := 4, ground := Go.Ground.phase }, { on := 5, ground := Go.Ground.phase }, { on := 6, ground := Go.Ground.phase }, { on := 7, ground := Go.Ground.phase }, { on := 8, ground := Go.Ground.phase }, { on := 9, ground := Go.Ground.phase }, { on := 10, ground := Go.Ground.phase }, { on := 11, ground := Go.Ground.phase }], guard := none } : Go.Oper)) (v := .pointer (some ⟨r, 2, none⟩)) rfl (by kernel_rfl) (by kernel_rfl) (by kernel_rfl) (fun _ _ _ h => h) (Or.inl ⟨by rfl, ?_⟩) (by assumption) ?_
                · intro wx hSw
                  try dsimp only at hSw
                  go_simp
                  try with_reducible rfl
                try simp only [Act.put, List.setIfInBounds_toArray, List.set_cons_zero, List.set_cons_succ]
                refine wpAnyH_ready (rs := [14]) (by kernel_rfl) (by simp) ?_
                refine AllReadyH.cons (o := ({ dst := none, op := Go.Op.store 9 (Go.Operand.tmp 133) (Go.Operand.tmp 131), type := 0, pos := "ref.go:62", after := #[{ on := 13, ground := Go.Ground.data }, { on := 11, ground := Go.Ground.data }, { on := 0, ground := Go.Ground.phase }, { on := 1, ground := Go.Ground.phase }, { on := 2, ground := Go.Ground.phase }, { on := 3, ground := Go.Ground.phase }, { on := 4, ground := Go.Ground.phase }, { on := 5, ground := Go.Ground.phase }, { on := 6, ground := Go.Ground.phase }, { on := 7, ground := Go.Ground.phase }, { on := 8, ground := Go.Ground.phase }, { on := 9, ground := Go.Ground.phase }, { on := 10, ground := Go.Ground.phase }, { on := 11, ground := Go.Ground.phase }], guard := none } : Go.Oper)) rfl (fun K hK => ?_) AllReadyH.nil
                · go_simp
                  refine hK.out _ _ trivial (fun hHeld => ?_)
                  clear hK K
                  try simp only [Act.put, List.setIfInBounds_toArray, List.set_cons_zero, List.set_cons_succ]
                  refine wpAnyH_done (by kernel_rfl) ?_ _
                  clear m2 m2f m4 hcv hHeld
                  try rw [HSA.out]
                  go_upto_region 17 with fail
                  generalize (w9.setCell ⟨r, 2, none⟩ (.string s2)).drew = w10 at *
                  obtain ⟨hA10, hV1, hV2, hT10⟩ := HA10.out
                  clear HA10
                  obtain ⟨m0, m0f⟩ : w10.cell? ⟨r, 0, none⟩ = some (.int .i64 Q.next) ∧ w10.frozen? ⟨r, 0, none⟩ = false := hA10.2 0 _ rfl
                  have hwn : IntKind.i64.wrap (Q.next + (j : Int)) = Q.next + (j : Int) := by rw [IntKind.wrap_i64] <;> omega
                  have hmd := mod_any (Q.next + (j : Int)) w10
                  obtain ⟨nx2, hnx2⟩ : ∃ x, x = (Q.next + (j : Int)) % 4294967296 := ⟨_, rfl⟩
                  rw [← hnx2] at hmd
                  have HNX : Hid (nx2 = (Q.next + (j : Int)) % 4294967296) := hnx2
                  clear hnx2
                  go_wp2_with fail
                  refine hmd.mono ?_
                  rintro e wy ⟨rfl, hwy⟩
                  subst hwy
                  obtain ⟨w10, hw10⟩ : ∃ x, x = wy := ⟨wy, rfl⟩
                  subst hw10
                  go_upto_region 18 with fail
                  have ht11 := turn_set w10 r 0 (.int .i64 nx2)
                  have hA11 := hA10.set 0 (.int .i64 nx2)
                  have hV1 := hV1.turn ht11 (fun k hk e => by cases hk; have e' : gx1 = r := e; omega)
                  have hV2 := hV2.turn ht11 (fun k hk e => by cases hk; have e' : gx2 = r := e; omega)
                  have hT11 := hT10.trans (ht11.mono (fun k e => Or.inl e))
                  clear m0 m0f hmd ht11 hT10 hA10
                  generalize w10.setCell ⟨r, 0, none⟩ (.int .i64 nx2) = w11 at *
                  have kx2 : gx2 < w11.heap.size := hV2.lt rfl
                  obtain ⟨v3, hsl3, hV3, hown3⟩ := hV1.from_ j (by rw [hereL_len]; exact hjr)
                  have hl3 : ((hereL { Q with ap := ap1 }).drop j).length = Q.room - j := by rw [List.length_drop, hereL_len]
                  obtain ⟨v3z, w12, ez3, hV3z, hgr3, hloc3⟩ := hV3.zeros j (by omega) (by rw [hl3]; omega) 38
                  obtain ⟨a3, o3, c3, hv3, -⟩ := hV3.shape
                  subst hv3
                  obtain ⟨a3z, o3z, c3z, hv3z, -⟩ := hV3z.shape
                  rw [show ((hereL { Q with ap := ap1 }).drop j ++ List.replicate j false) = hereL (goQ Q ap1 L) by rw [HJ.out]; exact here_shift hLr HPW.out] at hV3z hv3z
                  rw [hereL_len, show (goQ Q ap1 L).room = Q.room from rfl] at hv3z
                  subst hv3z
                  have ht12 : Turn (fun k => k = gx1) w11 w12 := Turn.of_grown hgr3 (fun k hk => by rw [hown3] at hk; cases hk; exact Or.inl rfl)
                  have hA12 := hA11.turn ht12 (fun e => by omega)
                  have hV2 := hV2.turn ht12 (fun k hk e => by cases hk; exact k5 e.symm)
                  have hT12 := hT11.trans (ht12.mono (fun k e => Or.inr (by omega)))
                  have hs11 : w.heap.size ≤ w11.heap.size := hT11.size
                  have m3 : w11.cell? ⟨r, 3, none⟩ = some (.slice (some ⟨gx1, 0, none⟩) Q.room cx1) := (hA11.2 3 _ rfl).1
                  obtain ⟨n3, n3f⟩ : w12.cell? ⟨r, 3, none⟩ = some (.slice (some ⟨gx1, 0, none⟩) Q.room cx1) ∧ w12.frozen? ⟨r, 3, none⟩ = false := hA12.2 3 _ rfl
                  have hloc3' : ∀ k, (Value.slice (some ⟨a3z, o3z, none⟩) Q.room c3z).ownBlock = some k → w.heap.size ≤ k ∧ k ≠ gx2 := fun k hk => by
                    rcases hloc3 with e | e
                    · rw [e, hown3] at hk; cases hk; exact ⟨k1', k5⟩
                    · rw [e] at hk; cases hk
                      exact ⟨hs11, by omega⟩
                  clear hV3 hgr3 hloc3 hown3 hV1 hl3
                  generalize ((hereL { Q with ap := ap1 }).drop j).length = nl3 at hsl3 ez3
                  go_upto_region 19 with (first | (at_builtin; refine wpList_append_eq rfl _ _ rfl rfl rfl ez3 ?_) | go_in)
                  have ht13 := turn_set w12 r 3 (.slice (some ⟨a3z, o3z, none⟩) Q.room c3z)
                  have hA13 := hA12.set 3 (.slice (some ⟨a3z, o3z, none⟩) Q.room c3z)
                  have hV3z := hV3z.turn ht13 (fun k hk e => by have := hloc3' k hk; omega)
                  have hV2 := hV2.turn ht13 (fun k hk e => by cases hk; have e' : gx2 = r := e; omega)
                  have hT13 := hT12.trans (ht13.mono (fun k e => Or.inl e))
                  clear m3 n3 n3f hsl3 ez3 ht12 ht13 hA11 hA12 hT11 hT12
                  generalize w12.setCell ⟨r, 3, none⟩ (.slice (some ⟨a3z, o3z, none⟩) Q.room c3z) = w13 at *
                  obtain ⟨v4, hsl4, hV4, hown4⟩ := hV2.from_ j (by rw [byL_len]; exact hjr)
                  have hl4 : ((byL { Q with ap := ap1 }).drop j).length = Q.room - j := by rw [List.length_drop, byL_len]
                  obtain ⟨v4z, w14, ez4, hV4z, hgr4, hloc4⟩ := hV4.zeros j (by omega) (by rw [hl4]; omega) 39
                  obtain ⟨a4, o4, c4, hv4, -⟩ := hV4.shape
                  subst hv4
                  obtain ⟨a4z, o4z, c4z, hv4z, -⟩ := hV4z.shape
                  rw [show ((byL { Q with ap := ap1 }).drop j ++ List.replicate j 0) = byL (goQ Q ap1 L) by rw [HJ.out]; exact by_shift hLr HPW.out] at hV4z hv4z
                  rw [byL_len, show (goQ Q ap1 L).room = Q.room from rfl] at hv4z
                  subst hv4z
                  have ht14 : Turn (fun k => k = gx2) w13 w14 := Turn.of_grown hgr4 (fun k hk => by rw [hown4] at hk; cases hk; exact Or.inl rfl)
                  have hA14 := hA13.turn ht14 (fun e => by omega)
                  have hV3z := hV3z.turn ht14 (fun k hk e => (hloc3' k hk).2 e)
                  have hT14 := hT13.trans (ht14.mono (fun k e => Or.inr (by omega)))
                  have hs13 : w.heap.size ≤ w13.heap.size := hT13.size
                  have m4 : w13.cell? ⟨r, 4, none⟩ = some (.slice (some ⟨gx2, 0, none⟩) Q.room cx2) := (hA13.2 4 _ rfl).1
                  obtain ⟨n4, n4f⟩ : w14.cell? ⟨r, 4, none⟩ = some (.slice (some ⟨gx2, 0, none⟩) Q.room cx2) ∧ w14.frozen? ⟨r, 4, none⟩ = false := hA14.2 4 _ rfl
                  have hloc4' : ∀ k, (Value.slice (some ⟨a4z, o4z, none⟩) Q.room c4z).ownBlock = some k → w.heap.size ≤ k := fun k hk => by
                    rcases hloc4 with e | e
                    · rw [e, hown4] at hk; cases hk; exact k2'
                    · rw [e] at hk; cases hk
                      exact hs13
                  clear hV4 hgr4 hloc4 hown4 hV2 hl4
                  generalize ((byL { Q with ap := ap1 }).drop j).length = nl4 at hsl4 ez4
                  have ht15 := turn_set w14 r 4 (.slice (some ⟨a4z, o4z, none⟩) Q.room c4z)
                  have hA15 := hA14.set 4 (.slice (some ⟨a4z, o4z, none⟩) Q.room c4z)
                  have hV3z := hV3z.turn ht15 (fun k hk e => by have := hloc3' k hk; omega)
                  have hV4z := hV4z.turn ht15 (fun k hk e => by have := hloc4' k hk; omega)
                  have hT15 := hT14.trans (ht15.mono (fun k e => Or.inl e))
                  have HF : Hid (∃ A', RX (w14.setCell ⟨r, 4, none⟩ (.slice (some ⟨a4z, o4z, none⟩) Q.room c4z)) A' r (goQ Q ap1 L) ∧ Turn A w (w14.setCell ⟨r, 4, none⟩ (.slice (some ⟨a4z, o4z, none⟩) Q.room c4z)) ∧ Gr w.heap.size A A') := by
                    refine ⟨fun k => k = r ∨ (w.heap.size ≤ k ∧ k < (w14.setCell ⟨r, 4, none⟩ (.slice (some ⟨a4z, o4z, none⟩) Q.room c4z)).heap.size), ⟨_, _, ?_, hV3z, hV4z, Or.inl rfl, (fun k hk => ?_), (fun k hk => ?_), ?_⟩, ?_, ?_⟩
                    · have e1 := HNX.out
                      have e2 := HS2.out
                      rw [HJ.out] at e1
                      subst e1 e2
                      exact hA15
                    · have g1 := hloc3' k hk
                      exact ⟨Or.inr ⟨g1.1, hV3z.lt hk⟩, by omega⟩
                    · have g1 := hloc4' k hk
                      exact ⟨Or.inr ⟨g1, hV4z.lt hk⟩, by omega⟩
                    · rintro k (e | e)
                      · rw [e]; exact hA15.1
                      · exact e.2
                    · exact ⟨hT15.os, hT15.tape, hT15.output, hT15.size, fun k hk hn => hT15.block k hk (fun e => by rcases e with e | e; exact hn (by rw [e]; exact h.ar); omega)⟩
                    · rintro k (e | e)
                      · exact Or.inl (by rw [e]; exact h.ar)
                      · exact Or.inr e.1
                  clear hA13 hA14 hA15 hV3z hV4z hT13 hT14 hT15 ht14 ht15
                  go_wp2_with (first | (at_builtin; refine wpList_append_eq rfl _ _ rfl rfl rfl ez4 ?_) | go_in)
                  go_ret2
                  have hF := HF.out
                  rw [HAP.out] at hF
                  exact ⟨by rw [HJ.out]; rfl, hF⟩
end Go.Proofs.Ytiglaalppaljbaa
