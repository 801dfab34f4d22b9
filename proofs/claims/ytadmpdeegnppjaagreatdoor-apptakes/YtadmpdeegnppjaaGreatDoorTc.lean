/- AppTakes: the program's session and the document's, act by act. -/
import Derived.Test.YtadmpdeegnppjaaGreatDoorTa
import Derived.Test.YtadmpdeegnppjaaGreatDoorTb
import Derived.Test.YtadmpdeegnppjaaGreatDoorRl
import Derived.Test.YtadmpdeegnppjaaGreatDoorFlat
namespace Go.Proofs.YtadmpdeegnppjaaGreatDoor
open Go.RowKit Go.Maps Go.Shelf Go.Lib
set_option maxRecDepth 100000
set_option linter.unusedVariables false
set_option linter.unusedSimpArgs false

/-- A row of texts that came in. -/
def ArgS (w : World) (a : Option Addr) (n : Nat) : Prop := n = 0 ∨ ∃ x, a = some x ∧ ∀ i, i < n → ∃ s : By, w.cell? (x.add i) = some (.string (B s)) ∧ s.length ≤ 140737488351232
theorem argS_of {w : World} {a : Option Addr} {n : Nat} (h : Flat.Rows w a n 1 [.s]) : ArgS w a n := by
  rcases h with h | ⟨b, off, ha, h⟩
  · exact Or.inl h
  · refine Or.inr ⟨⟨b, off, none⟩, ha, fun i hi => ?_⟩
    obtain ⟨cs, ho, hc⟩ := h i hi
    have hl : cs.length = 1 := ho.1
    obtain ⟨c, rfl⟩ : ∃ c, cs = [c] := by
      match cs, hl with
      | [c], _ => exact ⟨c, rfl⟩
    obtain ⟨s, rfl, hs⟩ := ho.2 0 .s c rfl rfl
    refine ⟨s.data.toList, ?_, by simpa using hs⟩
    rw [B_of, Addr.add_mid]
    have := hc 0 (.string s) rfl
    simpa using this

/-- What is answered to bytes, its code, the session then. -/
def tkE (d : By) (st : St) : By × Int × St := if 65536 < d.length then ([], 2, st) else if st.over = true then ([], 183, st) else ((takeF st d).1, 0, (takeF st d).2)
theorem tkE_ok {d : By} {st : St} (h : Ok st) : Ok (tkE d st).2.2 := by
  unfold tkE
  split
  · exact h
  · split
    · exact h
    · exact (take_ok h d).1
section
variable {w w' : World} {A : Bk} {b : Nat} {v : Value} {st : St}
theorem stake_all (h : SX w A b st) (hE : Env w) (hO : Ok st) (d : By) : Calls Tryz.prog 8 #[PB b, .string (B d)] w fun e w' => e = .returned (.tuple #[.string (B (tkE d st).1), .int .i64 (tkE d st).2.1]) ∧ ∃ A', SX w' A' b (tkE d st).2.2 ∧ Turn A w w' ∧ Gr w.heap.size A A' := by
  unfold tkE
  by_cases h1 : 65536 < d.length
  · rw [if_pos h1]
    refine (take_long d h1).mono ?_
    rintro e w' ⟨rfl, rfl⟩
    exact ⟨rfl, A, h, Turn.refl _, Gr.refl _ _⟩
  · rw [if_neg h1]
    by_cases h2 : st.over = true
    · rw [if_pos h2]
      obtain ⟨M, v, hY⟩ := h
      refine (take_end hY d (by omega) h2).mono ?_
      rintro e w' ⟨rfl, rfl⟩
      exact ⟨rfl, A, ⟨M, v, hY⟩, Turn.refl _, Gr.refl _ _⟩
    · rw [if_neg h2]
      exact take_any h hE hO (by simpa using h2) d (by omega)
theorem rtake_all (h : RY w b v st) (hO : Ok st) (d : By) : Calls Tryz.prog 9 #[PB b, .string (B d)] w fun e w' => e = .returned (.tuple #[.string (B (tkE d st).1), .int .i64 (tkE d st).2.1]) ∧ ∃ v', RY w' b v' (tkE d st).2.2 ∧ Turn (fun j => j = b) w w' ∧ Lies v v' w.heap.size := by
  unfold tkE
  by_cases h1 : 65536 < d.length
  · rw [if_pos h1]
    refine (rtake_long d h1).mono ?_
    rintro e w' ⟨rfl, rfl⟩
    exact ⟨rfl, v, h, Turn.refl _, Lies.refl _ _⟩
  · rw [if_neg h1]
    by_cases h2 : st.over = true
    · rw [if_pos h2]
      refine (rtake_end h d (by omega) h2).mono ?_
      rintro e w' ⟨rfl, rfl⟩
      exact ⟨rfl, v, h, Turn.refl _, Lies.refl _ _⟩
    · rw [if_neg h2]
      exact rtake_any h hO (by simpa using h2) d (by omega)
theorem row_lt {base : Nat} {e : TypeId} {size n : Nat} {xs : List Value} (h : w.ownsRow base e size v n xs) : ∀ k, v.ownBlock = some k → k < w.heap.size := fun k hk => by
  rcases h.2 with ⟨rfl, -⟩ | ⟨g, cap, cur, rfl, hg, hb, -⟩
  · cases hk
  · cases hk; exact (Array.getElem?_eq_some_iff.1 hb).1
end
/-- Both sessions, side by side. -/
structure TT (w wr : World) (b rb : Nat) (A : Bk) (v : Value) (st sr : St) : Prop where
  sx : SX wr A b st
  ry : RY wr rb v sr
  ge : ∀ k, A k → w.heap.size ≤ k
  rge : w.heap.size ≤ rb
  vge : ∀ k, v.ownBlock = some k → w.heap.size ≤ k
  nb : ¬ A rb
  nv : ∀ k, v.ownBlock = some k → ¬ A k
  bel : Below w.heap.size w wr
section
variable {w wr w2 : World} {b rb : Nat} {A A2 S : Bk} {v v2 : Value} {st st2 sr sr2 : St}
theorem TT.apart (h : TT w wr b rb A v st sr) (t : Turn S wr w2) (d1 : Dj S A) (d2 : ¬ S rb) (d3 : ∀ k, v.ownBlock = some k → ¬ S k) (d4 : ∀ k, S k → w.heap.size ≤ k) : TT w w2 b rb A v st sr :=
  ⟨h.sx.turn t d1, h.ry.turn t d2 d3, h.ge, h.rge, h.vge, h.nb, h.nv, h.bel.trans (t.below h.bel.size (fun k hk e => by have := d4 k e; omega))⟩
theorem TT.later (h : TT w wr b rb A v st sr) (hb : Below wr.heap.size wr w2) : TT w w2 b rb A v st sr :=
  h.apart (S := fun _ => False) (Turn.of_below hb) (fun _ e _ => e) (fun e => e) (fun _ _ e => e) (fun _ e => e.elim)
theorem TT.sTake (h : TT w wr b rb A v st sr) (hx : SX w2 A2 b st2) (t : Turn A wr w2) (g : Gr wr.heap.size A A2) : TT w w2 b rb A2 v st2 sr := by
  have hs := h.bel.size
  refine ⟨hx, h.ry.turn t h.nb h.nv, fun k hk => ?_, h.rge, h.vge, fun e => ?_, fun k hk e => ?_, h.bel.trans (t.below hs (fun k hk e => by have := h.ge k e; omega))⟩
  · rcases g k hk with e | e
    · exact h.ge k e
    · omega
  · rcases g rb e with q | q
    · exact h.nb q
    · have := h.ry.at_.1; omega
  · rcases g k e with q | q
    · exact h.nv k hk q
    · have := row_lt h.ry.pr k hk; omega
theorem TT.rTake (h : TT w wr b rb A v st sr) (r : RY w2 rb v2 sr2) (t : Turn (fun j => j = rb) wr w2) (l : Lies v v2 wr.heap.size) : TT w w2 b rb A v2 st sr2 := by
  have hs := h.bel.size
  refine ⟨h.sx.turn t (fun k hk e => h.nb (by rw [← hk]; exact e)), r, h.ge, h.rge, fun k hk => ?_, h.nb, fun k hk e => ?_, h.bel.trans (t.below hs (fun k hk e => by have := h.rge; omega))⟩
  · rcases l k hk with e | e
    · exact h.vge k e
    · omega
  · rcases l k hk with q | q
    · exact h.nv k q e
    · have := h.sx.lw k e; omega
end
section
variable {w : World}
set_option maxHeartbeats 16000000 in
theorem takes_any (a0 : Option Addr) (na c0 : Nat) (hE : Env w) (hi0 : Flat.Rows w a0 na 1 [.s]) (hz0 : na * 16 ≤ 140737488351232) :
    Calls Tryz.prog 3 #[.slice a0 na c0] w fun e w' => e = .returned (.bool true) ∧ Below w.heap.size w w' := by
  have HA0 : Hid (ArgS w a0 na) := argS_of hi0
  clear hi0
  have HE : Hid _ := hE
  clear hE
  go_enter Tryz.func3, Tryz.ntmps3
  go_wp2_with fail
  refine (new_any HE.out).mono ?_
  rintro e w1 ⟨b, A0, rfl, h1, hb1, hA1⟩
  have hR0 := RY.made w1
  have hbx := bel1 w1 (.cells #[.slice none 0 0, .string ⟨#[]⟩, .bool false, .bool false] 28)
  have hb2 := bt hb1 hbx
  have hT0 : TT w (w1.alloc (.cells #[.slice none 0 0, .string ⟨#[]⟩, .bool false, .bool false] 28)) b w1.heap.size A0 (.slice none 0 0) st0 st0 :=
    ⟨h1.later hbx, hR0, hA1, hb1.size, (fun k hk => by cases hk), (fun e => by have := h1.lw _ e; omega), (fun k hk => by cases hk), hb2⟩
  have HT0 : Hid _ := hT0
  generalize hrb : w1.heap.size = rb at HT0 ⊢
  clear hR0 hT0 h1 hA1
  go_wp2_with fail
  refine (works_any (HE.out.later HT0.out.bel)).mono ?_
  rintro e w3 ⟨rfl, hb3⟩
  have HT1 : Hid _ := HT0.out.later hb3
  clear HT0 hb3 hbx hb2 hb1 hrb
  go_wp2
  go_loopw [5] (fun x wr => ∃ (i : Nat) (st : St) (A : Bk) (v : Value), x = .int .i64 (i : Int) ∧ TT w wr b rb A v st st ∧ Ok st ∧ i ≤ 60) (fun x wr => 61 - natOf x)
  case atStart => exact ⟨0, st0, A0, _, rfl, HT1.out, ok0, by omega⟩
  case round =>
    obtain ⟨i, st, A, v, rfl, hT, hO, hi60⟩ := hrel
    have HT : Hid _ := hT
    have HO : Hid (Ok st) := hO
    clear hT hO HT1
    have hi1 : ((i + 1 : Nat) : Int) = (i : Int) + 1 := by omega
    have hi0 : (0 : Int) ≤ (i : Int) := by omega
    by_cases hlast : i < na ∧ i < 60
    · obtain ⟨hp, hp60⟩ := hlast
      have hp' : (i : Int) < (na : Int) := by omega
      have hp2' : (i : Int) < 60 := by omega
      rcases HA0.out with hz | ⟨ad, rfl, hcell⟩
      · omega
      obtain ⟨d, hd, hdl⟩ := hcell i hp
      have kd := later HT.out.bel hd
      have HD : Hid _ := hd
      clear hcell hd
      by_cases h5 : 5000 < d.length ∧ d.length ≤ 65536
      · have h5a : (5000 : Int) < ((B d).size : Int) := by rw [B_size]; omega
        have h5b : ((B d).size : Int) ≤ 65536 := by rw [B_size]; omega
        go_wp2
        go_roundw
        case rel => exact ⟨i + 1, st, A, v, by rw [hi1], HT.out, HO.out, by omega⟩
        case measure => simp only [natOf]; omega
      · have h5c : ¬ (5000 : Int) < ((B d).size : Int) ∨ ((5000 : Int) < ((B d).size : Int) ∧ ¬ ((B d).size : Int) ≤ 65536) := by rw [B_size]; omega
        rcases h5c with h5d | ⟨h5d, h5e⟩
        all_goals
          go_wp2_with fail
          refine (fork_any HT.out.sx HO.out).mono ?_
          rintro e w4 ⟨rfl, ⟨A', hf, hfge⟩, hb4⟩
          have HT4 : Hid _ := HT.out.later hb4
          have HFlw : Hid (∀ k, A' k → wr.heap.size ≤ k ∧ k < w4.heap.size) := fun k hk => ⟨hfge k hk, hf.lw k hk⟩
          have HF4 : Hid (SX w4 A' wr.heap.size st) := hf
          have HAlw : Hid (∀ k, A k → k < wr.heap.size) := HT.out.sx.lw
          have HVlw : Hid (∀ k, v.ownBlock = some k → k < wr.heap.size) := row_lt HT.out.ry.pr
          have HRlw : Hid (rb < wr.heap.size) := HT.out.ry.at_.1
          have HS4 : Hid (wr.heap.size ≤ w4.heap.size) := hb4.size
          have kd4 := later HT4.out.bel HD.out
          clear kd hf hfge hb4
          go_wp2_with fail
          refine (stake_all HT4.out.sx (HE.out.later HT4.out.bel) HO.out d).mono ?_
          rintro e w5 ⟨rfl, A2, hx5, t5, g5⟩
          have HT5 : Hid _ := HT4.out.sTake hx5 t5 g5
          have HF5 : Hid (SX w5 A' wr.heap.size st) := HF4.out.turn t5 (fun k hk e => by have := HAlw.out k hk; have := (HFlw.out k e).1; omega)
          have HG5 : Hid (∀ k, A2 k → k < wr.heap.size ∨ w4.heap.size ≤ k) := fun k hk => by
            rcases g5 k hk with e | e
            · exact Or.inl (HAlw.out k e)
            · exact Or.inr e
          have HS5 : Hid (w4.heap.size ≤ w5.heap.size) := t5.size
          have kd5 := later HT5.out.bel HD.out
          clear kd4 hx5 t5 g5
          go_wp2_with fail
          refine (rtake_all HT5.out.ry HO.out d).mono ?_
          rintro e w6 ⟨rfl, v6, r6, t6, l6⟩
          have HT6 : Hid _ := HT5.out.rTake r6 t6 l6
          have HF6 : Hid (SX w6 A' wr.heap.size st) := HF5.out.turn t6 (fun k hk e => by have := HRlw.out; have := (HFlw.out k e).1; omega)
          have HV6 : Hid (∀ k, v6.ownBlock = some k → k < wr.heap.size ∨ w5.heap.size ≤ k) := fun k hk => by
            rcases l6 k hk with e | e
            · exact Or.inl (HVlw.out k e)
            · exact Or.inr e
          have HS6 : Hid (w5.heap.size ≤ w6.heap.size) := t6.size
          have HO6 : Hid _ := tkE_ok (d := d) HO.out
          clear kd5 r6 t6 l6 HT5 HT4
          obtain ⟨q, hq⟩ : ∃ q, q = tkE d st := ⟨_, rfl⟩
          rw [← hq] at HT6 HO6 ⊢
          clear hq
          obtain ⟨ans, code, st'⟩ := q
          obtain ⟨M6, v6s, hY6⟩ := HT6.out.sx
          have hnm := names_any hY6 HO6.out.toM
          clear hY6
          go_wp2_with fail
          refine hnm.mono ?_
          rintro e w7 ⟨y, rfl, hy, hb7⟩
          clear hnm
          have HT7 : Hid _ := HT6.out.later hb7
          have HF7 : Hid (SX w7 A' wr.heap.size st) := HF6.out.later hb7
          have HYG : Hid (∀ k, y.ownBlock = some k → w6.heap.size ≤ k) := hy.ge
          have HS7 : Hid (w6.heap.size ≤ w7.heap.size) := hb7.size
          have hdr : Below w7.heap.size w7 w7.drew := ⟨rfl, rfl, rfl, Nat.le_refl _, fun _ _ => rfl⟩
          have hyd : SO w7.drew 0 y (st'.m.map (·.1)) := (hy.low (Nat.zero_le _)).later hdr
          have hRd : RY w7.drew rb v6 st' := HT7.out.ry.later hdr
          obtain ⟨M7, v7, hY7⟩ := HT7.out.sx
          have hYd := hY7.later hdr
          have hlen : (st'.m.map (·.1)).length ≤ 1000000 := by rw [List.length_map]; have := HO6.out.size; omega
          obtain ⟨-, ⟨-, -, -, c3⟩, -⟩ := hRd.at_.four
          have qq : ((B ans).toList == (B ans).toList) = true := B_same ans
          have hqq : ((B ans).toList != (B ans).toList) = false := by rw [bne, qq]; rfl
          clear hy hb7 hY7
          obtain ⟨ay, ny, cy, rfl⟩ : ∃ a n c, y = .slice a n c := by obtain ⟨a, k, e, -⟩ := hyd.shape; exact ⟨a, _, k, e⟩
          have hnm2 := rnames_any hRd HO6.out.toM
          have hov := over_any hYd
          obtain ⟨xs, hxs⟩ : ∃ xs, xs = st'.m.map (·.1) := ⟨_, rfl⟩
          rw [← hxs] at hyd hlen hnm2
          clear hxs
          have HYD : Hid (SO w7.drew 0 (.slice ay ny cy) xs) := hyd
          have HLN : Hid _ := hlen
          clear hyd hlen
          obtain ⟨oo, hoo⟩ : ∃ oo, oo = st'.over := ⟨_, rfl⟩
          rw [← hoo] at c3 hov
          go_upto_region 14 with fail
          refine wp_region_held_drew (S := (fun W : World => W.cell? ⟨rb, 3, none⟩ = some (.bool oo))) (by kernel_rfl) ?_ (fun hHeld => ?_)
          · first | exact c3 | assumption
          refine wpAnyH_take (i := 0) (oi := ({ dst := some 69, op := Go.Op.move (Go.Operand.tmp 7), type := 9, pos := "law.go:27", after := #[], guard := none } : Go.Oper)) (v := .string (B ans)) rfl (by kernel_rfl) (by kernel_rfl) (by kernel_rfl) (fun _ _ _ h => h) (Or.inl ⟨by rfl, ?_⟩) (by assumption) ?_
          · intro wx hSw
            try dsimp only at hSw
            go_simp
            try with_reducible rfl
          try simp only [Act.put, List.setIfInBounds_toArray, List.set_cons_zero, List.set_cons_succ]
          refine wpAnyH_take (i := 1) (oi := ({ dst := some 70, op := Go.Op.move (Go.Operand.tmp 9), type := 9, pos := "law.go:27", after := #[], guard := none } : Go.Oper)) (v := .string (B ans)) rfl (by kernel_rfl) (by kernel_rfl) (by kernel_rfl) (fun _ _ _ h => h) (Or.inl ⟨by rfl, ?_⟩) (by assumption) ?_
          · intro wx hSw
            try dsimp only at hSw
            go_simp
            try with_reducible rfl
          try simp only [Act.put, List.setIfInBounds_toArray, List.set_cons_zero, List.set_cons_succ]
          refine wpAnyH_take (i := 2) (oi := ({ dst := some 71, op := Go.Op.binOp Go.BinOp.neq 9 (Go.Operand.tmp 69) (Go.Operand.tmp 70) 9, type := 4, pos := "law.go:27", after := #[{ on := 0, ground := Go.Ground.data }, { on := 1, ground := Go.Ground.data }], guard := none } : Go.Oper)) (v := .bool false) rfl (by kernel_rfl) (by kernel_rfl) (by kernel_rfl) (fun _ _ _ h => h) (Or.inl ⟨by rfl, ?_⟩) (by assumption) ?_
          · intro wx hSw
            try dsimp only at hSw
            go_simp
            try with_reducible rfl
          try simp only [Act.put, List.setIfInBounds_toArray, List.set_cons_zero, List.set_cons_succ]
          refine wpAnyH_take (i := 3) (oi := ({ dst := some 72, op := Go.Op.move (Go.Operand.tmp 71), type := 4, pos := "law.go:27", after := #[{ on := 2, ground := Go.Ground.data }], guard := none } : Go.Oper)) (v := .bool false) rfl (by kernel_rfl) (by kernel_rfl) (by kernel_rfl) (fun _ _ _ h => h) (Or.inl ⟨by rfl, ?_⟩) (by assumption) ?_
          · intro wx hSw
            try dsimp only at hSw
            go_simp
            try with_reducible rfl
          try simp only [Act.put, List.setIfInBounds_toArray, List.set_cons_zero, List.set_cons_succ]
          refine wpAnyH_take (i := 4) (oi := ({ dst := some 73, op := Go.Op.move (Go.Operand.tmp 8), type := 30, pos := "law.go:27", after := #[{ on := 3, ground := Go.Ground.guard }], guard := some (3, false) } : Go.Oper)) (v := .int .i64 code) rfl (by kernel_rfl) (by kernel_rfl) (by kernel_rfl) (fun _ _ _ h => h) (Or.inl ⟨by rfl, ?_⟩) (by assumption) ?_
          · intro wx hSw
            try dsimp only at hSw
            go_simp
            try with_reducible rfl
          try simp only [Act.put, List.setIfInBounds_toArray, List.set_cons_zero, List.set_cons_succ]
          refine wpAnyH_take (i := 5) (oi := ({ dst := some 74, op := Go.Op.move (Go.Operand.tmp 10), type := 30, pos := "law.go:27", after := #[{ on := 3, ground := Go.Ground.guard }], guard := some (3, false) } : Go.Oper)) (v := .int .i64 code) rfl (by kernel_rfl) (by kernel_rfl) (by kernel_rfl) (fun _ _ _ h => h) (Or.inl ⟨by rfl, ?_⟩) (by assumption) ?_
          · intro wx hSw
            try dsimp only at hSw
            go_simp
            try with_reducible rfl
          try simp only [Act.put, List.setIfInBounds_toArray, List.set_cons_zero, List.set_cons_succ]
          refine wpAnyH_take (i := 6) (oi := ({ dst := some 75, op := Go.Op.binOp Go.BinOp.neq 30 (Go.Operand.tmp 73) (Go.Operand.tmp 74) 30, type := 4, pos := "law.go:27", after := #[{ on := 4, ground := Go.Ground.data }, { on := 5, ground := Go.Ground.data }, { on := 3, ground := Go.Ground.guard }], guard := some (3, false) } : Go.Oper)) (v := .bool false) rfl (by kernel_rfl) (by kernel_rfl) (by kernel_rfl) (fun _ _ _ h => h) (Or.inl ⟨by rfl, ?_⟩) (by assumption) ?_
          · intro wx hSw
            try dsimp only at hSw
            go_simp
            try with_reducible rfl
          try simp only [Act.put, List.setIfInBounds_toArray, List.set_cons_zero, List.set_cons_succ]
          refine wpAnyH_take (i := 7) (oi := ({ dst := some 76, op := Go.Op.pick (Go.Operand.tmp 72) (Go.Operand.const (Go.Value.bool true)) (Go.Operand.tmp 75), type := 4, pos := "law.go:27", after := #[{ on := 3, ground := Go.Ground.data }, { on := 6, ground := Go.Ground.data }], guard := none } : Go.Oper)) (v := .bool false) rfl (by kernel_rfl) (by kernel_rfl) (by kernel_rfl) (fun _ _ _ h => h) (Or.inl ⟨by rfl, ?_⟩) (by assumption) ?_
          · intro wx hSw
            try dsimp only at hSw
            go_simp
            try with_reducible rfl
          try simp only [Act.put, List.setIfInBounds_toArray, List.set_cons_zero, List.set_cons_succ]
          refine wpAnyH_take (i := 8) (oi := ({ dst := some 77, op := Go.Op.move (Go.Operand.tmp 76), type := 4, pos := "law.go:27", after := #[{ on := 7, ground := Go.Ground.data }, { on := 3, ground := Go.Ground.chain }], guard := none } : Go.Oper)) (v := .bool false) rfl (by kernel_rfl) (by kernel_rfl) (by kernel_rfl) (fun _ _ _ h => h) (Or.inl ⟨by rfl, ?_⟩) (by assumption) ?_
          · intro wx hSw
            try dsimp only at hSw
            go_simp
            try with_reducible rfl
          try simp only [Act.put, List.setIfInBounds_toArray, List.set_cons_zero, List.set_cons_succ]
          refine wpAnyH_take (i := 9) (oi := ({ dst := some 78, op := Go.Op.move (Go.Operand.tmp 3), type := 23, pos := "law.go:27", after := #[{ on := 8, ground := Go.Ground.guard }], guard := some (8, false) } : Go.Oper)) (v := .pointer (some ⟨b, 0, none⟩)) rfl (by kernel_rfl) (by kernel_rfl) (by kernel_rfl) (fun _ _ _ h => h) (Or.inl ⟨by rfl, ?_⟩) (by assumption) ?_
          · intro wx hSw
            try dsimp only at hSw
            go_simp
            try with_reducible rfl
          try simp only [Act.put, List.setIfInBounds_toArray, List.set_cons_zero, List.set_cons_succ]
          refine wpAnyH_take (i := 11) (oi := ({ dst := some 80, op := Go.Op.move (Go.Operand.tmp 4), type := 25, pos := "law.go:27", after := #[{ on := 8, ground := Go.Ground.guard }], guard := some (8, false) } : Go.Oper)) (v := .pointer (some ⟨rb, 0, none⟩)) rfl (by kernel_rfl) (by kernel_rfl) (by kernel_rfl) (fun _ _ _ h => h) (Or.inl ⟨by rfl, ?_⟩) (by assumption) ?_
          · intro wx hSw
            try dsimp only at hSw
            go_simp
            try with_reducible rfl
          try simp only [Act.put, List.setIfInBounds_toArray, List.set_cons_zero, List.set_cons_succ]
          refine wpAnyH_take (i := 12) (oi := ({ dst := some 81, op := Go.Op.nilCheck (Go.Operand.tmp 80), type := 0, pos := "law.go:27", after := #[{ on := 11, ground := Go.Ground.data }, { on := 8, ground := Go.Ground.guard }], guard := some (8, false) } : Go.Oper)) (v := .pointer (some ⟨rb, 0, none⟩)) rfl (by kernel_rfl) (by kernel_rfl) (by kernel_rfl) (fun _ _ _ h => h) (Or.inl ⟨by rfl, ?_⟩) (by assumption) ?_
          · intro wx hSw
            try dsimp only at hSw
            go_simp
            try with_reducible rfl
          try simp only [Act.put, List.setIfInBounds_toArray, List.set_cons_zero, List.set_cons_succ]
          refine wpAnyH_take (i := 13) (oi := ({ dst := some 82, op := Go.Op.fieldAddr 28 (Go.Operand.tmp 81) 3, type := 0, pos := "law.go:27", after := #[{ on := 12, ground := Go.Ground.data }, { on := 8, ground := Go.Ground.guard }], guard := some (8, false) } : Go.Oper)) (v := .pointer (some ⟨rb, 3, none⟩)) rfl (by kernel_rfl) (by kernel_rfl) (by kernel_rfl) (fun _ _ _ h => h) (Or.inl ⟨by rfl, ?_⟩) (by assumption) ?_
          · intro wx hSw
            try dsimp only at hSw
            go_simp
            try with_reducible rfl
          try simp only [Act.put, List.setIfInBounds_toArray, List.set_cons_zero, List.set_cons_succ]
          refine wpAnyH_take (i := 14) (oi := ({ dst := some 83, op := Go.Op.load 4 (Go.Operand.tmp 82), type := 4, pos := "law.go:27", after := #[{ on := 13, ground := Go.Ground.data }, { on := 8, ground := Go.Ground.guard }], guard := some (8, false) } : Go.Oper)) (v := .bool oo) rfl (by kernel_rfl) (by kernel_rfl) (by kernel_rfl) (fun _ _ _ h => h) (Or.inl ⟨by rfl, ?_⟩) (by assumption) ?_
          · intro wx hSw
            try dsimp only at hSw
            go_simp
            try with_reducible rfl
          try simp only [Act.put, List.setIfInBounds_toArray, List.set_cons_zero, List.set_cons_succ]
          refine wpAnyH_ready (rs := [10]) (by kernel_rfl) (by simp) ?_
          refine AllReadyH.cons (o := ({ dst := some 79, op := Go.Op.call { callee := Go.Callee.value (Go.Operand.func 11), args := #[Go.Operand.tmp 78], argTypes := #[23] }, type := 4, pos := "law.go:27", after := #[{ on := 9, ground := Go.Ground.data }, { on := 8, ground := Go.Ground.chain }, { on := 8, ground := Go.Ground.guard }], guard := some (8, false) } : Go.Oper)) rfl (fun K hK => ?_) AllReadyH.nil
          go_simp
          refine hov.mono ?_
          rintro e wk ⟨rfl, rfl⟩
          refine hK.out _ _ hHeld (fun hHeld => ?_)
          clear hK K
          try simp only [Act.put, List.setIfInBounds_toArray, List.set_cons_zero, List.set_cons_succ]
          refine wpAnyH_take (i := 15) (oi := ({ dst := some 84, op := Go.Op.binOp Go.BinOp.neq 4 (Go.Operand.tmp 79) (Go.Operand.tmp 83) 4, type := 4, pos := "law.go:27", after := #[{ on := 10, ground := Go.Ground.data }, { on := 14, ground := Go.Ground.data }, { on := 8, ground := Go.Ground.guard }], guard := some (8, false) } : Go.Oper)) (v := .bool false) rfl (by kernel_rfl) (by kernel_rfl) (by kernel_rfl) (fun _ _ _ h => h) (Or.inl ⟨by rfl, ?_⟩) (by assumption) ?_
          · intro wx hSw
            try dsimp only at hSw
            go_simp
            try with_reducible rfl
          try simp only [Act.put, List.setIfInBounds_toArray, List.set_cons_zero, List.set_cons_succ]
          refine wpAnyH_take (i := 16) (oi := ({ dst := some 85, op := Go.Op.pick (Go.Operand.tmp 77) (Go.Operand.const (Go.Value.bool true)) (Go.Operand.tmp 84), type := 4, pos := "law.go:27", after := #[{ on := 8, ground := Go.Ground.data }, { on := 15, ground := Go.Ground.data }], guard := none } : Go.Oper)) (v := .bool false) rfl (by kernel_rfl) (by kernel_rfl) (by kernel_rfl) (fun _ _ _ h => h) (Or.inl ⟨by rfl, ?_⟩) (by assumption) ?_
          · intro wx hSw
            try dsimp only at hSw
            go_simp
            try with_reducible rfl
          try simp only [Act.put, List.setIfInBounds_toArray, List.set_cons_zero, List.set_cons_succ]
          refine wpAnyH_take (i := 17) (oi := ({ dst := some 86, op := Go.Op.move (Go.Operand.tmp 85), type := 4, pos := "law.go:27", after := #[{ on := 16, ground := Go.Ground.data }, { on := 10, ground := Go.Ground.chain }], guard := none } : Go.Oper)) (v := .bool false) rfl (by kernel_rfl) (by kernel_rfl) (by kernel_rfl) (fun _ _ _ h => h) (Or.inl ⟨by rfl, ?_⟩) (by assumption) ?_
          · intro wx hSw
            try dsimp only at hSw
            go_simp
            try with_reducible rfl
          try simp only [Act.put, List.setIfInBounds_toArray, List.set_cons_zero, List.set_cons_succ]
          refine wpAnyH_take (i := 18) (oi := ({ dst := some 87, op := Go.Op.move (Go.Operand.tmp 11), type := 22, pos := "law.go:27", after := #[{ on := 17, ground := Go.Ground.guard }], guard := some (17, false) } : Go.Oper)) (v := .slice ay ny cy) rfl (by kernel_rfl) (by kernel_rfl) (by kernel_rfl) (fun _ _ _ h => h) (Or.inl ⟨by rfl, ?_⟩) (by assumption) ?_
          · intro wx hSw
            try dsimp only at hSw
            go_simp
            try with_reducible rfl
          try simp only [Act.put, List.setIfInBounds_toArray, List.set_cons_zero, List.set_cons_succ]
          refine wpAnyH_take (i := 19) (oi := ({ dst := some 88, op := Go.Op.move (Go.Operand.tmp 4), type := 25, pos := "law.go:27", after := #[{ on := 17, ground := Go.Ground.guard }], guard := some (17, false) } : Go.Oper)) (v := .pointer (some ⟨rb, 0, none⟩)) rfl (by kernel_rfl) (by kernel_rfl) (by kernel_rfl) (fun _ _ _ h => h) (Or.inl ⟨by rfl, ?_⟩) (by assumption) ?_
          · intro wx hSw
            try dsimp only at hSw
            go_simp
            try with_reducible rfl
          try simp only [Act.put, List.setIfInBounds_toArray, List.set_cons_zero, List.set_cons_succ]
          refine wpAnyH_ready (rs := [20]) (by kernel_rfl) (by simp) ?_
          refine AllReadyH.cons (o := ({ dst := some 89, op := Go.Op.call { callee := Go.Callee.value (Go.Operand.func 13), args := #[Go.Operand.tmp 88], argTypes := #[25] }, type := 22, pos := "law.go:27", after := #[{ on := 19, ground := Go.Ground.data }, { on := 17, ground := Go.Ground.chain }, { on := 17, ground := Go.Ground.guard }], guard := some (17, false) } : Go.Oper)) rfl (fun K hK => ?_) AllReadyH.nil
          go_simp
          refine hnm2.mono ?_
          rintro e w8 ⟨y8, rfl, hy8, hge8, hb8⟩
          have hst := sametexts_any (HYD.out.later hb8) hy8 HLN.out
          have HB8 : Hid _ := hb8
          obtain ⟨a8, c8, rfl, -⟩ := hy8.shape
          clear hy8 hge8
          have HST : Hid _ := hst
          clear hst hnm2 hov
          refine hK.out _ _ (later hb8 hHeld) (fun hHeld => ?_)
          clear hb8
          clear hK K
          try simp only [Act.put, List.setIfInBounds_toArray, List.set_cons_zero, List.set_cons_succ]
          refine wpAnyH_ready (rs := [21]) (by kernel_rfl) (by simp) ?_
          refine AllReadyH.cons (o := ({ dst := some 90, op := Go.Op.call { callee := Go.Callee.value (Go.Operand.func 12), args := #[Go.Operand.tmp 87, Go.Operand.tmp 89], argTypes := #[22, 22] }, type := 4, pos := "law.go:27", after := #[{ on := 18, ground := Go.Ground.data }, { on := 20, ground := Go.Ground.data }, { on := 20, ground := Go.Ground.chain }, { on := 17, ground := Go.Ground.guard }], guard := some (17, false) } : Go.Oper)) rfl (fun K hK => ?_) AllReadyH.nil
          go_simp
          refine Calls.mono HST.out ?_
          rintro e w9 ⟨rfl, hb9⟩
          have HB9 : Hid _ := hb9
          refine hK.out _ _ (later hb9 hHeld) (fun hHeld => ?_)
          clear hK K
          try simp only [Act.put, List.setIfInBounds_toArray, List.set_cons_zero, List.set_cons_succ]
          refine wpAnyH_take (i := 22) (oi := ({ dst := some 91, op := Go.Op.unOp Go.UnOp.not 4 (Go.Operand.tmp 90), type := 4, pos := "law.go:27", after := #[{ on := 21, ground := Go.Ground.data }, { on := 17, ground := Go.Ground.guard }], guard := some (17, false) } : Go.Oper)) (v := .bool false) rfl (by kernel_rfl) (by kernel_rfl) (by kernel_rfl) (fun _ _ _ h => h) (Or.inl ⟨by rfl, ?_⟩) (by assumption) ?_
          · intro wx hSw
            try dsimp only at hSw
            go_simp
            try with_reducible rfl
          try simp only [Act.put, List.setIfInBounds_toArray, List.set_cons_zero, List.set_cons_succ]
          refine wpAnyH_take (i := 23) (oi := ({ dst := some 92, op := Go.Op.pick (Go.Operand.tmp 86) (Go.Operand.const (Go.Value.bool true)) (Go.Operand.tmp 91), type := 4, pos := "law.go:27", after := #[{ on := 17, ground := Go.Ground.data }, { on := 22, ground := Go.Ground.data }], guard := none } : Go.Oper)) (v := .bool false) rfl (by kernel_rfl) (by kernel_rfl) (by kernel_rfl) (fun _ _ _ h => h) (Or.inl ⟨by rfl, ?_⟩) (by assumption) ?_
          · intro wx hSw
            try dsimp only at hSw
            go_simp
            try with_reducible rfl
          try simp only [Act.put, List.setIfInBounds_toArray, List.set_cons_zero, List.set_cons_succ]
          refine wpAnyH_done (by kernel_rfl) ?_ _
          have HT9 : Hid _ := HT7.out.later (bt hdr (bt HB8.out HB9.out))
          have HF9 : Hid (SX w9 A' wr.heap.size st) := HF7.out.later (bt hdr (bt HB8.out HB9.out))
          have hsp := spoil_any ((HYD.out.later HB8.out).later HB9.out) HLN.out
          clear hYd hRd c3 hb9 hHeld hdr
          go_wp2_with fail
          refine hsp.mono ?_
          rintro e w10 ⟨⟨u, rfl⟩, t10⟩
          have hlt6 : ∀ k, A2 k → k < w6.heap.size := HT6.out.sx.lw
          have hvt6 : ∀ k, v6.ownBlock = some k → k < w6.heap.size := row_lt HT6.out.ry.pr
          have HT10 : Hid _ := HT9.out.apart t10 (fun k hk e => by have := HYG.out k hk; have := hlt6 k e; omega) (fun e => by have := HYG.out rb e; have := HT6.out.ry.at_.1; omega) (fun k hk e => by have := HYG.out k e; have := hvt6 k hk; omega) (fun k e => by have := HYG.out k e; have := HT6.out.bel.size; omega)
          have HF10 : Hid (SX w10 A' wr.heap.size st) := HF9.out.turn t10 (fun k hk e => by have := HYG.out k hk; have := (HFlw.out k e).2; have := HS5.out; have := HS6.out; omega)
          clear hsp t10 hlt6 hvt6
          go_wp2_with fail
          refine (stake_all HF10.out (HE.out.later HT10.out.bel) HO.out [80, 85, 84, 32, 102, 111, 114, 107, 32, 49, 10, 68, 69, 76, 32, 97, 10]).mono ?_
          rintro e w11 ⟨rfl, A3, hx11, t11, -⟩
          have HT11 : Hid _ := HT10.out.apart t11 (fun k hk e => by have := HFlw.out k hk; rcases HG5.out k e with q | q <;> omega) (fun e => by have := (HFlw.out rb e).1; have := HRlw.out; omega) (fun k hk e => by have := HFlw.out k e; have := HS5.out; rcases HV6.out k hk with q | q <;> omega) (fun k e => by have := (HFlw.out k e).1; have := HT.out.bel.size; omega)
          clear hx11 t11
          go_wp2
          go_roundw
          case rel => exact ⟨i + 1, st', A2, v6, by rw [hi1], HT11.out, HO6.out, by omega⟩
          case measure => simp only [natOf]; omega
    · rcases (by omega : ¬ (i : Int) < (na : Int) ∨ ((i : Int) < (na : Int) ∧ ¬ (i : Int) < 60)) with hq | ⟨hq, hq2⟩
      all_goals
        go_wp2
        go_ret
        exact ⟨rfl, HT.out.bel⟩
end
end Go.Proofs.YtadmpdeegnppjaaGreatDoor
