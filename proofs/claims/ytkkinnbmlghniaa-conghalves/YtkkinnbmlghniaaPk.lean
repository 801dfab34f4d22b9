/- CongHalves, walked. -/
import Derived.Test.YtkkinnbmlghniaaPh
import Derived.Test.YtkkinnbmlghniaaFlat
import Derived.Deep.CutBlock
namespace Go.Proofs.Ytkkinnbmlghniaa
open Go.RowKit
set_option maxRecDepth 100000
set_option linter.unusedVariables false
set_option linter.unusedSimpArgs false


/-- While the loss is made out. -/
def H1 (m f : Int) (k : Nat) (s : Vs) : Prop := s.Fine m ∧ s.ga ≤ 0 ∧ ((k < 3 ∧ s.me = false ∧ s.sa = (k : Int)) ∨ (k = 3 ∧ s.me = true ∧ s.up = 1000 ∧ s.th = max (f / 2) (2 * m)))
theorem H1.new {m f : Int} (m0 : 1 ≤ m) (m1 : m ≤ 1460) : H1 m f 0 (newV m) := ⟨newV_fine m0 m1, Int.le_refl _, Or.inl ⟨by omega, rfl, rfl⟩⟩
theorem H1.step {m f : Int} {k : Nat} {s : Vs} (h : H1 m f k s) (hk : k < 3) (f0 : 0 ≤ f) (f1 : f < 524288) : sameB s = decide (k = 2) ∧ H1 m f (k + 1) (sameE m f 1000 s) := by
  obtain ⟨hf, hg, h⟩ := h
  rcases h with ⟨-, hm, hs⟩ | ⟨h3, -⟩
  · have e1 : sa1 s = (k : Int) + 1 := by unfold sa1; omega
    have hf2 := sameE_fine (f := f) (nx := 1000) hf
    have hb : sameB s = decide (k = 2) := by
      unfold sameB
      rw [hm, e1]
      by_cases h2 : k = 2
      · subst h2; rfl
      · rw [decide_eq_false h2, decide_eq_false (by omega)]; rfl
    refine ⟨hb, hf2, ?_⟩
    unfold sameE
    rw [if_neg (by rw [hm]; decide)]
    by_cases h2 : k = 2
    · rw [if_pos (by omega)]
      refine ⟨hg, Or.inr ⟨by omega, rfl, rfl, ?_⟩⟩
      show halfV m f = _
      unfold halfV amt
      rw [show min (max f 0) 1048576 = f by omega]
    · rw [if_neg (by omega)]
      exact ⟨hg, Or.inl ⟨by omega, hm, by show sa1 s = _; rw [e1]; simp⟩⟩
  · omega
/-- While it mends. -/
structure HM (m want : Int) (s : Vs) : Prop where
  fine : s.Fine m
  ga : s.ga ≤ 0
  me : s.me = true
  up : s.up = 1000
  th : s.th = want
theorem HM.same {m want n x : Int} {s : Vs} (h : HM m want s) : HM m want (sameE m n x s) := by
  have hf := sameE_fine (f := n) (nx := x) h.fine
  have e : sameE m n x s = { s with sa := sa1 s, wi := bnd m (s.wi + m) } := if_pos h.me
  rw [e] at hf ⊢
  exact ⟨hf, h.ga, h.me, h.up, h.th⟩
theorem HM.back {m want n u : Int} {s : Vs} (h : HM m want s) (u0 : 0 ≤ u) (u1 : u < 1000) : backB u s = true ∧ HM m want (ackE m n u s) := by
  have hb : backB u s = true := by
    unfold backB reB aheadV
    rw [h.me, h.up]
    have e : u % 4294967296 = u := by omega
    rw [e, show (u == 1000) = false by rw [beq_eq_false_iff_ne]; omega, decide_eq_false (show ¬ (0 < (u - 1000) % 4294967296 ∧ (u - 1000) % 4294967296 < 2147483648) by omega)]
    simp
  have hf := ackE_fine (n := n) (up := u) h.fine (by have := h.ga; omega)
  have e : ackE m n u s = { s with wi := bnd m (mendV m (amt n) s.wi) } := if_pos hb
  rw [e] at hf ⊢
  exact ⟨hb, hf, h.ga, h.me, h.up, h.th⟩
theorem HM.fin {m want x : Int} {s : Vs} (h : HM m want s) (x0 : 0 ≤ x) (x1 : x < 500) : backB (1000 + x) s = false ∧ ackE m 1 (1000 + x) s = { s with wi := bnd m want, sa := 0, me := false, up := 0 } := by
  have hb : backB (1000 + x) s = false := by
    unfold backB reB aheadV
    rw [h.me, h.up]
    have e : (1000 + x) % 4294967296 = 1000 + x := by omega
    rw [e]
    by_cases hx : x = 0
    · subst hx; rfl
    · have e2 : (1000 + x - 1000) % 4294967296 = x := by omega
      have e3 : numB (1000 + x) = true := decide_eq_true (by omega)
      have e4 : numB 1000 = true := by decide
      rw [show (1000 + x == 1000) = false by rw [beq_eq_false_iff_ne]; omega, e2, e3, e4, decide_eq_true (show 0 < x ∧ x < 2147483648 by omega)]
      rfl
  refine ⟨hb, ?_⟩
  unfold ackE
  rw [if_neg (by rw [hb]; decide), if_pos h.me, h.th]
set_option maxHeartbeats 8000000 in
theorem halves_any (mss : Int) (a : Option Addr) (n cap : Nat) (fli : Int) (w : World) (hr : Flat.Rows w a n 3 [.i, .i, .i]) (hz : n < 1000000000000000) :
    Calls Try.prog 6 #[.int .i64 mss, .slice a n cap, .int .i64 fli] w fun e w' => e = .returned (.bool true) ∧ Below w.heap.size w w' := by
  have HA : Hid (Flat.Rows w a n 3 [.i, .i, .i]) := hr
  clear hr
  go_enter Try.func6, Try.ntmps6
  go_wp2_with fail
  refine (among_any mss 1460 w (by decide) (by decide)).mono ?_
  rintro e w1 ⟨rfl, rfl⟩
  have f0 : 0 ≤ mss % 1460 := Int.emod_nonneg _ (by decide)
  have f1 : mss % 1460 < 1460 := Int.emod_lt_of_pos _ (by decide)
  generalize mss % 1460 = m' at *
  go_wp2_with fail
  have m0 : 1 ≤ 1 + m' := by omega
  have m1 : 1 + m' ≤ 1460 := by omega
  generalize 1 + m' = m at *
  clear f0 f1
  refine (among_any fli 524288 w1 (by decide) (by decide)).mono ?_
  rintro e w1 ⟨rfl, rfl⟩
  have f0 : 0 ≤ fli % 524288 := Int.emod_nonneg _ (by decide)
  have f1 : fli % 524288 < 524288 := Int.emod_lt_of_pos _ (by decide)
  generalize fli % 524288 = f at *
  go_wp2_with fail
  refine (new_t m w1 m0 m1).mono ?_
  rintro e w2 ⟨B, L, G, rfl, hBw, hV, hb⟩
  go_wp2_with fail
  refine (works_any w2).mono ?_
  rintro e w3 ⟨rfl, hb2⟩
  have hV3 := hV.later hb2
  have hb3 := bt hb hb2
  have hF0 := H1.new (f := f) m0 m1
  clear hb hb2 hV
  go_wp2_with fail
  try go_frame
  go_loopw [43] (fun i wr => ∃ (k : Nat) (s : Vs), k ≤ 3 ∧ i = .int .i64 (k : Int) ∧ H1 m f k s ∧ VY wr B L G m s ∧ Below w1.heap.size w1 wr) (fun i _ => 3 - (intOf i).toNat)
  case atStart => exact ⟨0, newV m, by decide, rfl, hF0, hV3, hb3⟩
  case round =>
    clear hV3 hb3 hF0
    obtain ⟨k, s, hk, rfl, hF, hV, hbr⟩ := hrel
    by_cases hlt : k < 3
    · have hk1 : (k : Int) < 3 := by omega
      have hk3 : (0 : Int) ≤ (k : Int) := by omega
      obtain ⟨hsb, hF2⟩ := hF.step hlt f0 f1
      have hsm := same_any f 1000 hV hF.1
      rw [hsb] at hsm
      clear hF hsb
      generalize sameE m f 1000 s = s2 at *
      cases h2 : ((k : Int) == 2) with
      | true =>
        rw [decide_eq_true (show k = 2 by have := beq_iff_eq.1 h2; omega)] at hsm
        go_wp2_with fail
        refine hsm.mono ?_
        rintro e w8 ⟨rfl, hV8, ht⟩
        have hb8 := VY.below ht hbr hbr.size hBw
        clear hV hsm ht hbr
        go_wp2
        go_roundw
        case rel => exact ⟨k + 1, s2, by omega, by simp, hF2, hV8, hb8⟩
        case measure => simp [intOf]; omega
      | false =>
        rw [decide_eq_false (show ¬ k = 2 by have := beq_eq_false_iff_ne.1 h2; omega)] at hsm
        go_wp2_with fail
        refine hsm.mono ?_
        rintro e w8 ⟨rfl, hV8, ht⟩
        have hb8 := VY.below ht hbr hbr.size hBw
        clear hV hsm ht hbr
        go_wp2
        go_roundw
        case rel => exact ⟨k + 1, s2, by omega, by simp, hF2, hV8, hb8⟩
        case measure => simp [intOf]; omega
    · obtain rfl : k = 3 := by omega
      have hMI : HM m (max (f / 2) (2 * m)) s := by
        obtain ⟨p1, p2, ⟨p3, -⟩ | ⟨-, p4, p5, p6⟩⟩ := hF
        · omega
        · exact ⟨p1, p2, p4, p5, p6⟩
      have hq1 : f.tdiv 2 = f / 2 := Int.tdiv_eq_ediv_of_nonneg f0
      have wn0 : 2 * m ≤ max (f / 2) (2 * m) := by omega
      have wn1 : max (f / 2) (2 * m) ≤ 524288 := by omega
      clear hF hlt
      go_upto_block 2 with fail
      generalize max (f / 2) (2 * m) = want at *
      try go_frame
      go_wp2_with fail
      go_loopw [11] (fun i wx => ∃ (k : Nat) (s : Vs), k ≤ n ∧ k ≤ 100 ∧ i = .int .i64 (k : Int) ∧ HM m want s ∧ VY wx B L G m s ∧ Below w1.heap.size w1 wx) (fun i _ => n - (intOf i).toNat)
      case atStart => exact ⟨0, s, Nat.zero_le _, by decide, rfl, hMI, hV, hbr⟩
      case round =>
        clear hV hbr hMI
        obtain ⟨k, s, hkn, hk100, rfl, hF, hV, hbr⟩ := hrel
        by_cases hlt : k < n ∧ k < 100
        · obtain ⟨ab, off, rfl, hrow⟩ : ∃ b off, a = some ⟨b, off, none⟩ ∧ ∀ k, k < n → ∃ cs : List Value, Flat.Ok [.i, .i, .i] cs ∧ ∀ j v, cs[j]? = some v → w1.cell? ⟨b, off + k * 3 + j, none⟩ = some v := by
            rcases HA.out with h | h
            · omega
            · exact h
          obtain ⟨cs, ⟨hcl, hck⟩, hcc⟩ := hrow k hlt.1
          clear hrow
          match cs, hcl with
          | [v0, v1, v2], _ =>
          obtain ⟨kd, rfl, wkd⟩ := hck 0 _ _ rfl rfl
          obtain ⟨nn, rfl, wnn⟩ := hck 1 _ _ rfl rfl
          obtain ⟨up, rfl, wup⟩ := hck 2 _ _ rfl rfl
          have hx0 : ∀ W, Below w1.heap.size w1 W → W.cell? ⟨ab, off + k * 3, none⟩ = some (.int .i64 kd) := fun W hW => later hW (by have := hcc 0 _ rfl; rwa [Nat.add_zero] at this)
          have hx1 : ∀ W, Below w1.heap.size w1 W → W.cell? ⟨ab, off + k * 3 + 1, none⟩ = some (.int .i64 nn) := fun W hW => later hW (hcc 1 _ rfl)
          have hx2 : ∀ W, Below w1.heap.size w1 W → W.cell? ⟨ab, off + k * 3 + 2, none⟩ = some (.int .i64 up) := fun W hW => later hW (hcc 2 _ rfl)
          clear hcc hck
          have hk1 : (k : Int) < (n : Int) := by omega
          have hk2 : (k : Int) < 100 := by omega
          have hk3 : (0 : Int) ≤ (k : Int) := by omega
          have y0 := hx0 _ hbr
          go_upto_if 74 with fail
          go_cut [7] from 58 to 114 (fun c7 W => c7 = .pointer (some ⟨B, 0, none⟩) ∧ ∃ s' : Vs, HM m want s' ∧ VY W B L G m s' ∧ Below w1.heap.size w1 W)
          case first =>
            cases he : (kd.tmod 2 == 0) with
            | true =>
              have hF2 := hF.same (n := nn) (x := 5000)
              have hsm := same_any nn 5000 hV hF.fine
              have y1 := hx1 _ hbr
              generalize sameE m nn 5000 s = s2 at *
              go_wp2_with fail
              refine hsm.mono ?_
              rintro e w8 ⟨rfl, hV8, ht⟩
              have hb8 := VY.below ht hbr hbr.size hBw
              go_wp2
              go_meet
              case rel => exact ⟨rfl, s2, hF2, hV8, hb8⟩
            | false =>
              have u0 : 0 ≤ up % 1000 := Int.emod_nonneg _ (by decide)
              have u1 : up % 1000 < 1000 := Int.emod_lt_of_pos _ (by decide)
              have ham := fun W => among_any up 1000 W (by decide) (by decide)
              generalize up % 1000 = u at *
              obtain ⟨hbk, hF2⟩ := hF.back (n := nn) u0 u1
              have hak := acked_any nn u (hV.later (w := wr) (x := wr.drew) (Below.refl _ _).drew) hF.fine
              rw [hbk] at hak
              have hbd : Below w1.heap.size w1 wr.drew := hbr.drew
              have hsz := hbd.size
              generalize ackE m nn u s = s2 at *
              go_upto_region 18 with fail
              refine wp_region_held_drew (S := (fun W => Below w1.heap.size w1 W)) (by kernel_rfl) ?_ (fun hHeld => ?_)
              · first | exact hbd | assumption
              refine wpAnyH_take (i := 0) (oi := ({ dst := some 82, op := Go.Op.move (Go.Operand.tmp 7), type := 23, pos := "more.go:28", after := #[], guard := none } : Go.Oper)) (v := .pointer (some ⟨B, 0, none⟩)) rfl (by kernel_rfl) (by kernel_rfl) (by kernel_rfl) (fun _ _ _ h => h) (Or.inl ⟨by rfl, ?_⟩) (by assumption) ?_
              · intro wx hSw
                try dsimp only at hSw
                have z1 := hx1 wx hSw
                have z2 := hx2 wx hSw
                go_simp
                try with_reducible rfl
              try simp only [Act.put, List.setIfInBounds_toArray, List.set_cons_zero, List.set_cons_succ]
              refine wpAnyH_take (i := 1) (oi := ({ dst := some 83, op := Go.Op.move (Go.Operand.tmp 1), type := 22, pos := "more.go:28", after := #[], guard := none } : Go.Oper)) (v := .slice (some ⟨ab, off, none⟩) n cap) rfl (by kernel_rfl) (by kernel_rfl) (by kernel_rfl) (fun _ _ _ h => h) (Or.inl ⟨by rfl, ?_⟩) (by assumption) ?_
              · intro wx hSw
                try dsimp only at hSw
                have z1 := hx1 wx hSw
                have z2 := hx2 wx hSw
                go_simp
                try with_reducible rfl
              try simp only [Act.put, List.setIfInBounds_toArray, List.set_cons_zero, List.set_cons_succ]
              refine wpAnyH_take (i := 2) (oi := ({ dst := some 84, op := Go.Op.move (Go.Operand.tmp 11), type := 3, pos := "more.go:28", after := #[], guard := none } : Go.Oper)) (v := .int .i64 (k : Int)) rfl (by kernel_rfl) (by kernel_rfl) (by kernel_rfl) (fun _ _ _ h => h) (Or.inl ⟨by rfl, ?_⟩) (by assumption) ?_
              · intro wx hSw
                try dsimp only at hSw
                have z1 := hx1 wx hSw
                have z2 := hx2 wx hSw
                go_simp
                try with_reducible rfl
              try simp only [Act.put, List.setIfInBounds_toArray, List.set_cons_zero, List.set_cons_succ]
              refine wpAnyH_take (i := 3) (oi := ({ dst := some 85, op := Go.Op.indexAddr 22 (Go.Operand.tmp 83) (Go.Operand.tmp 84), type := 0, pos := "more.go:28", after := #[{ on := 1, ground := Go.Ground.data }, { on := 2, ground := Go.Ground.data }], guard := none } : Go.Oper)) (v := .pointer (some ⟨ab, off + k * 3, none⟩)) rfl (by kernel_rfl) (by kernel_rfl) (by kernel_rfl) (fun _ _ _ h => h) (Or.inl ⟨by rfl, ?_⟩) (by assumption) ?_
              · intro wx hSw
                try dsimp only at hSw
                have z1 := hx1 wx hSw
                have z2 := hx2 wx hSw
                go_simp
                try with_reducible rfl
              try simp only [Act.put, List.setIfInBounds_toArray, List.set_cons_zero, List.set_cons_succ]
              refine wpAnyH_take (i := 4) (oi := ({ dst := some 86, op := Go.Op.fieldAddr 34 (Go.Operand.tmp 85) 1, type := 0, pos := "more.go:28", after := #[{ on := 3, ground := Go.Ground.data }], guard := none } : Go.Oper)) (v := .pointer (some ⟨ab, off + k * 3 + 1, none⟩)) rfl (by kernel_rfl) (by kernel_rfl) (by kernel_rfl) (fun _ _ _ h => h) (Or.inl ⟨by rfl, ?_⟩) (by assumption) ?_
              · intro wx hSw
                try dsimp only at hSw
                have z1 := hx1 wx hSw
                have z2 := hx2 wx hSw
                go_simp
                try with_reducible rfl
              try simp only [Act.put, List.setIfInBounds_toArray, List.set_cons_zero, List.set_cons_succ]
              refine wpAnyH_take (i := 5) (oi := ({ dst := some 87, op := Go.Op.load 3 (Go.Operand.tmp 86), type := 3, pos := "more.go:28", after := #[{ on := 4, ground := Go.Ground.data }], guard := none } : Go.Oper)) (v := .int .i64 nn) rfl (by kernel_rfl) (by kernel_rfl) (by kernel_rfl) (fun _ _ _ h => h) (Or.inl ⟨by rfl, ?_⟩) (by assumption) ?_
              · intro wx hSw
                try dsimp only at hSw
                have z1 := hx1 wx hSw
                have z2 := hx2 wx hSw
                go_simp
                try with_reducible rfl
              try simp only [Act.put, List.setIfInBounds_toArray, List.set_cons_zero, List.set_cons_succ]
              refine wpAnyH_take (i := 6) (oi := ({ dst := some 88, op := Go.Op.move (Go.Operand.tmp 1), type := 22, pos := "more.go:28", after := #[], guard := none } : Go.Oper)) (v := .slice (some ⟨ab, off, none⟩) n cap) rfl (by kernel_rfl) (by kernel_rfl) (by kernel_rfl) (fun _ _ _ h => h) (Or.inl ⟨by rfl, ?_⟩) (by assumption) ?_
              · intro wx hSw
                try dsimp only at hSw
                have z1 := hx1 wx hSw
                have z2 := hx2 wx hSw
                go_simp
                try with_reducible rfl
              try simp only [Act.put, List.setIfInBounds_toArray, List.set_cons_zero, List.set_cons_succ]
              refine wpAnyH_take (i := 7) (oi := ({ dst := some 89, op := Go.Op.move (Go.Operand.tmp 11), type := 3, pos := "more.go:28", after := #[], guard := none } : Go.Oper)) (v := .int .i64 (k : Int)) rfl (by kernel_rfl) (by kernel_rfl) (by kernel_rfl) (fun _ _ _ h => h) (Or.inl ⟨by rfl, ?_⟩) (by assumption) ?_
              · intro wx hSw
                try dsimp only at hSw
                have z1 := hx1 wx hSw
                have z2 := hx2 wx hSw
                go_simp
                try with_reducible rfl
              try simp only [Act.put, List.setIfInBounds_toArray, List.set_cons_zero, List.set_cons_succ]
              refine wpAnyH_take (i := 8) (oi := ({ dst := some 90, op := Go.Op.indexAddr 22 (Go.Operand.tmp 88) (Go.Operand.tmp 89), type := 0, pos := "more.go:28", after := #[{ on := 6, ground := Go.Ground.data }, { on := 7, ground := Go.Ground.data }], guard := none } : Go.Oper)) (v := .pointer (some ⟨ab, off + k * 3, none⟩)) rfl (by kernel_rfl) (by kernel_rfl) (by kernel_rfl) (fun _ _ _ h => h) (Or.inl ⟨by rfl, ?_⟩) (by assumption) ?_
              · intro wx hSw
                try dsimp only at hSw
                have z1 := hx1 wx hSw
                have z2 := hx2 wx hSw
                go_simp
                try with_reducible rfl
              try simp only [Act.put, List.setIfInBounds_toArray, List.set_cons_zero, List.set_cons_succ]
              refine wpAnyH_take (i := 9) (oi := ({ dst := some 91, op := Go.Op.fieldAddr 34 (Go.Operand.tmp 90) 2, type := 0, pos := "more.go:28", after := #[{ on := 8, ground := Go.Ground.data }], guard := none } : Go.Oper)) (v := .pointer (some ⟨ab, off + k * 3 + 2, none⟩)) rfl (by kernel_rfl) (by kernel_rfl) (by kernel_rfl) (fun _ _ _ h => h) (Or.inl ⟨by rfl, ?_⟩) (by assumption) ?_
              · intro wx hSw
                try dsimp only at hSw
                have z1 := hx1 wx hSw
                have z2 := hx2 wx hSw
                go_simp
                try with_reducible rfl
              try simp only [Act.put, List.setIfInBounds_toArray, List.set_cons_zero, List.set_cons_succ]
              refine wpAnyH_take (i := 10) (oi := ({ dst := some 92, op := Go.Op.load 3 (Go.Operand.tmp 91), type := 3, pos := "more.go:28", after := #[{ on := 9, ground := Go.Ground.data }], guard := none } : Go.Oper)) (v := .int .i64 up) rfl (by kernel_rfl) (by kernel_rfl) (by kernel_rfl) (fun _ _ _ h => h) (Or.inl ⟨by rfl, ?_⟩) (by assumption) ?_
              · intro wx hSw
                try dsimp only at hSw
                have z1 := hx1 wx hSw
                have z2 := hx2 wx hSw
                go_simp
                try with_reducible rfl
              try simp only [Act.put, List.setIfInBounds_toArray, List.set_cons_zero, List.set_cons_succ]
              refine wpAnyH_ready (rs := [11]) (by kernel_rfl) (by simp) ?_
              refine AllReadyH.cons (o := ({ dst := some 93, op := Go.Op.call { callee := Go.Callee.value (Go.Operand.func 16), args := #[Go.Operand.tmp 92, Go.Operand.const (Go.Value.int Go.IntKind.i64 1000)], argTypes := #[3, 3] }, type := 3, pos := "more.go:28", after := #[{ on := 10, ground := Go.Ground.data }], guard := none } : Go.Oper)) rfl (fun K hK => ?_) AllReadyH.nil
              go_simp
              refine (ham _).mono ?_
              rintro e wk ⟨rfl, rfl⟩
              refine hK.out _ _ hHeld (fun hHeld => ?_)
              clear hK K
              try simp only [Act.put, List.setIfInBounds_toArray, List.set_cons_zero, List.set_cons_succ]
              refine wpAnyH_ready (rs := [12]) (by kernel_rfl) (by simp) ?_
              refine AllReadyH.cons (o := ({ dst := some 94, op := Go.Op.call { callee := Go.Callee.value (Go.Operand.func 17), args := #[Go.Operand.tmp 82, Go.Operand.tmp 87, Go.Operand.tmp 93], argTypes := #[23, 3, 3] }, type := 4, pos := "more.go:28", after := #[{ on := 0, ground := Go.Ground.data }, { on := 5, ground := Go.Ground.data }, { on := 11, ground := Go.Ground.data }, { on := 11, ground := Go.Ground.chain }], guard := none } : Go.Oper)) rfl (fun K hK => ?_) AllReadyH.nil
              go_simp
              refine hak.mono ?_
              rintro e w8 ⟨rfl, hV8, ht⟩
              refine hK.out _ _ (VY.below ht hbd hsz hBw) (fun hHeld => ?_)
              clear hK K
              try simp only [Act.put, List.setIfInBounds_toArray, List.set_cons_zero, List.set_cons_succ]
              refine wpAnyH_take (i := 13) (oi := ({ dst := some 95, op := Go.Op.unOp Go.UnOp.not 4 (Go.Operand.tmp 94), type := 4, pos := "more.go:28", after := #[{ on := 12, ground := Go.Ground.data }], guard := none } : Go.Oper)) (v := .bool false) rfl (by kernel_rfl) (by kernel_rfl) (by kernel_rfl) (fun _ _ _ h => h) (Or.inl ⟨by rfl, ?_⟩) (by assumption) ?_
              · intro wx hSw
                try dsimp only at hSw
                have z1 := hx1 wx hSw
                have z2 := hx2 wx hSw
                go_simp
                try with_reducible rfl
              try simp only [Act.put, List.setIfInBounds_toArray, List.set_cons_zero, List.set_cons_succ]
              refine wpAnyH_done (by kernel_rfl) ?_ _
              go_wp2
              go_meet
              case rel => exact ⟨rfl, s2, hF2, hV8, hHeld⟩
          case rest =>
            clear hV hbr hF y0 hx0 hx1 hx2
            obtain ⟨rfl, s2, hF, hV, hb⟩ := hcut
            obtain ⟨w8, hw8⟩ : ∃ x, x = wc := ⟨wc, rfl⟩
            subst hw8
            have hst := state_any hV
            rw [hF.th, hF.me, hF.up] at hst
            have hr1 : (want != want) = false := by simp
            go_wp2_with fail
            refine hst.mono ?_
            rintro e w10 ⟨rfl, q2, rfl⟩
            have hV8 := hV.drewN q2
            have hb9 := below_drewN hb q2
            clear hV hb hst
            generalize w8.drewN q2 = wz at *
            go_wp2
            go_roundw
            case rel =>
              (repeat apply Exists.intro)
              exact ⟨⟨k + 1, s2, by omega, by omega, by simp, hF, hV8, hb9⟩, rfl⟩
            case measure => simp [intOf]; omega
        · have u0 : 0 ≤ f % 500 := Int.emod_nonneg _ (by decide)
          have u1 : f % 500 < 500 := Int.emod_lt_of_pos _ (by decide)
          have ham := fun W => among_any f 500 W (by decide) (by decide)
          generalize f % 500 = x at *
          obtain ⟨hbk, hE⟩ := hF.fin u0 u1
          have hFn := ackE_fine (n := 1) (up := 1000 + x) hF.fine (by have := hF.ga; omega)
          have hak := acked_any 1 (1000 + x) hV hF.fine
          rw [hbk, hE] at hak
          rw [hE] at hFn
          have hth := hF.th
          have e1 : bnd m want = max m (min 1048576 want) := by unfold bnd; omega
          rw [e1] at hak hFn
          have hr2 : (max m (min 1048576 want) == max m (min 1048576 want)) = true := by simp
          have hr3 : (want == want) = true := by simp
          have hfin : ∀ W, VY W B L G m { s with wi := max m (min 1048576 want), sa := 0, me := false, up := 0 } → VY W B L G m ⟨max m (min 1048576 want), want, 0, s.ga, false, 0⟩ := by
            intro W hW
            rw [hth] at hW
            exact hW
          clear hbk hE hF hth e1 hFn
          by_cases hkn' : (k : Int) < (n : Int)
          · have hk30' : ¬ (k : Int) < 100 := by omega
            go_wp2_with fail
            refine (ham _).mono ?_
            rintro e w7 ⟨rfl, rfl⟩
            go_wp2_with fail
            refine hak.mono ?_
            rintro e w8 ⟨rfl, hV8, ht⟩
            have hb8 := VY.below ht hbr hbr.size hBw
            have hV9 := hfin _ hV8
            clear hV hV8 hak ht hbr hfin
            go_wp2_with fail
            refine (state_any hV9).mono ?_
            rintro e w9 ⟨rfl, q, rfl⟩
            have hVa := hV9.drewN q
            have hba := below_drewN hb8 q
            clear hV9 hb8
            generalize w8.drewN q = wz at *
            go_wp2_with fail
            refine (window_any hVa).mono ?_
            rintro e wy ⟨rfl, rfl⟩
            go_wp2
            go_ret
            exact ⟨rfl, hba⟩
          · skip
            go_wp2_with fail
            refine (ham _).mono ?_
            rintro e w7 ⟨rfl, rfl⟩
            go_wp2_with fail
            refine hak.mono ?_
            rintro e w8 ⟨rfl, hV8, ht⟩
            have hb8 := VY.below ht hbr hbr.size hBw
            have hV9 := hfin _ hV8
            clear hV hV8 hak ht hbr hfin
            go_wp2_with fail
            refine (state_any hV9).mono ?_
            rintro e w9 ⟨rfl, q, rfl⟩
            have hVa := hV9.drewN q
            have hba := below_drewN hb8 q
            clear hV9 hb8
            generalize w8.drewN q = wz at *
            go_wp2_with fail
            refine (window_any hVa).mono ?_
            rintro e wy ⟨rfl, rfl⟩
            go_wp2
            go_ret
            exact ⟨rfl, hba⟩
end Go.Proofs.Ytkkinnbmlghniaa
