/- The document's Hole. -/
import Derived.Test.YtlbdecjppgjdiaaDTe
namespace Go.Proofs.Ytlbdecjppgjdiaa
open Go.RowKit Go.Maps Go.Lib
set_option maxRecDepth 100000
set_option linter.unusedVariables false
set_option linter.unusedSimpArgs false


/-- The first hole of the document's list. -/
structure RH (sent : Nat) (G : List Bool) (f t : Nat) : Prop where
  ft : f ≤ t
  ts : t ≤ sent
  a : ∀ k, k < f → G[k]? = some true
  b : ∀ k, f ≤ k → k < t → G[k]? = some false
  c : t < sent → G[t]? = some true
  d : f = t → f = sent
set_option maxHeartbeats 4000000 in
theorem rhole_any {w : World} {R : Bk} {r : Nat} {Q : Ru} {vg : Value} (h : RX w R r Q vg) (hf : Q.Fine) {f t : Nat} (hh : RH Q.sent Q.G f t) (most : Int) (hmost : -9223372036854775808 ≤ most) :
    Calls Try.prog 33 #[PR r, .int .i64 most] w fun e w' => e = .returned (.tuple #[.int .i64 (if min ((t : Int) - (f : Int)) most < 1 then Q.left else (Q.left + (f : Int)) % 4294967296), .string (strB (if min ((t : Int) - (f : Int)) most < 1 then [] else (Q.bs.drop f).take (min ((t : Int) - (f : Int)) most).toNat))]) ∧ Below w.heap.size w w' := by
  obtain ⟨m1, hm1⟩ : ∃ x, x = (max (min ((t : Int) - (f : Int)) most) 0).toNat := ⟨_, rfl⟩
  have HX : Hid (RX w R r Q vg) := h
  have HH : Hid (RH Q.sent Q.G f t) := hh
  have hft := hh.ft
  have hts := hh.ts
  have hgl := hf.gl
  have hsn := hf.sn
  have hBL : Q.bs.length ≤ 65536 := by have := hf.ln; have := hf.r1; omega
  obtain ⟨⟨c0, c1, c2, c3, c4⟩, -⟩ := h.at5.five
  obtain ⟨ag, cg, eg, hg0, hgc, -⟩ := h.go.shape
  subst eg
  have hcell : ∀ k b, Q.G[k]? = some b → ∃ g, ag = some ⟨g, 0, none⟩ ∧ w.cell? ⟨g, k, none⟩ = some (.bool b) := by
    intro k b hb
    rcases h.go.2 with ⟨e, e0⟩ | ⟨g, cap, cur, hv, -⟩
    · rw [List.length_eq_zero_iff.1 e0] at hb; cases hb
    · cases hv
      exact ⟨g, rfl, h.go.cell hb⟩
  have HC : Hid (∀ k b, Q.G[k]? = some b → ∃ g, ag = some ⟨g, 0, none⟩ ∧ w.cell? ⟨g, k, none⟩ = some (.bool b)) := hcell
  have HF : Hid Q.Fine := hf
  have hs6 : (Q.sent : Int) ≤ 65536 := by omega
  have HM1 : Hid (m1 = (max (min ((t : Int) - (f : Int)) most) 0).toNat) := hm1
  have hm1t : f + m1 ≤ t := by omega
  obtain ⟨AA, hAA⟩ : ∃ x : Int, x = if min ((t : Int) - (f : Int)) most < 1 then Q.left else (Q.left + (f : Int)) % 4294967296 := ⟨_, rfl⟩
  obtain ⟨SX, hSX⟩ : ∃ x : List UInt8, x = if min ((t : Int) - (f : Int)) most < 1 then [] else (Q.bs.drop f).take (min ((t : Int) - (f : Int)) most).toNat := ⟨_, rfl⟩
  rw [← hAA, ← hSX]
  have HAA : Hid ((min ((t : Int) - (f : Int)) most < 1 → AA = Q.left ∧ SX = []) ∧ (¬ min ((t : Int) - (f : Int)) most < 1 → AA = (Q.left + (f : Int)) % 4294967296 ∧ SX = (Q.bs.drop f).take (min ((t : Int) - (f : Int)) most).toNat)) := ⟨fun h => by rw [hAA, hSX, if_pos h, if_pos h]; exact ⟨rfl, rfl⟩, fun h => by rw [hAA, hSX, if_neg h, if_neg h]; exact ⟨rfl, rfl⟩⟩
  clear h hh hcell hf hm1 hg0 hAA hSX
  go_enter Try.func33, Try.ntmps33
  go_wp2
  go_loopw [6] (fun s6 W => ∃ k : Nat, k ≤ f ∧ s6 = .int .i64 (k : Int) ∧ W = w) (fun s6 _ => f - (RowKit.intOf s6).toNat)
  case atStart => exact ⟨0, Nat.zero_le _, rfl, rfl⟩
  case round =>
    obtain ⟨k, hk, rfl, rfl⟩ := hrel
    by_cases hkf : k < f
    · have hkI : (k : Int) < (Q.sent : Int) := by omega
      obtain ⟨g, hag, hgk⟩ := HC.out k true (HH.out.a k hkf)
      subst hag
      have hk2 : (k : Int) < (Q.G.length : Int) := by omega
      have hk0 : (0 : Int) ≤ (k : Int) := by omega
      go_wp2
      go_roundw
      case rel => exact ⟨k + 1, by omega, by first | rfl | simp, by first | rfl | trivial⟩
      case measure => simp [RowKit.intOf]; omega
    obtain rfl : k = f := by omega
    go_upto_region 2 with fail
    go_cut [22] from 8 to 21 (fun s22 W => s22 = .bool false ∧ W = wr)
    case first =>
      as_aux_lemma =>
      by_cases hks : k < Q.sent
      · have hkI : (k : Int) < (Q.sent : Int) := by omega
        have hkt : k < t := by
          rcases Nat.lt_or_ge k t with h1 | h1
          · exact h1
          · have := HH.out.d (by omega)
            omega
        obtain ⟨g, hag, hgk⟩ := HC.out k false (HH.out.b k (Nat.le_refl _) hkt)
        subst hag
        have hk2 : (k : Int) < (Q.G.length : Int) := by omega
        have hk0 : (0 : Int) ≤ (k : Int) := by omega
        go_wp2
        go_meet
        case rel => exact ⟨rfl, rfl⟩
      · have hkI : ¬ (k : Int) < (Q.sent : Int) := by omega
        go_wp2
        go_meet
        case rel => exact ⟨rfl, rfl⟩
    case rest =>
    obtain ⟨rfl, hwc⟩ := hcut
    subst hwc
    obtain ⟨w0, hw0⟩ : ∃ x, x = wc := ⟨wc, rfl⟩
    subst hw0
    go_wp2
    go_loopw [7] (fun s7 W => ∃ b : Nat, k ≤ b ∧ b ≤ k + m1 ∧ s7 = .int .i64 (b : Int) ∧ W = w0) (fun s7 _ => k + m1 - (RowKit.intOf s7).toNat)
    case atStart => exact ⟨k, Nat.le_refl _, by omega, rfl, rfl⟩
    case round =>
      obtain ⟨b, hb1, hb2, rfl, rfl⟩ := hrel
      by_cases hbm : b < k + m1
      · have hbI : (b : Int) < (Q.sent : Int) := by omega
        obtain ⟨g, hag, hgk⟩ := HC.out b false (HH.out.b b hb1 (by omega))
        subst hag
        have hk2 : (b : Int) < (Q.G.length : Int) := by omega
        have hk0 : (0 : Int) ≤ (b : Int) := by omega
        have hlt : (b : Int) - (k : Int) < most := by have := HM1.out; omega
        have hkI2 : (k : Int) ≤ 65536 := by omega
        have hbI2 : (b : Int) ≤ 65536 := by omega
        go_wp2
        go_roundw
        case rel => exact ⟨b + 1, by omega, by omega, by first | rfl | simp, by first | rfl | trivial⟩
        case measure => simp [RowKit.intOf]; omega
      have HB : Hid (b = k + m1) := by show _ = _; omega
      have hbt : b ≤ t := by omega
      clear hb1 hb2 hbm
      go_upto_region 5 with fail
      have hkI2 : (k : Int) ≤ 65536 := by omega
      have hbI2 : (b : Int) ≤ 65536 := by omega
      go_cut [48] from 26 to 47 (fun s48 W => s48 = .bool false ∧ W = wr)
      case first =>
        as_aux_lemma =>
        by_cases hbs : b < Q.sent
        · have hbI : (b : Int) < (Q.sent : Int) := by omega
          have hk2 : (b : Int) < (Q.G.length : Int) := by omega
          have hk0 : (0 : Int) ≤ (b : Int) := by omega
          by_cases hb3 : b < t
          · obtain ⟨g, hag, hgk⟩ := HC.out b false (HH.out.b b (by have := HB.out; omega) hb3)
            subst hag
            have hlt : ¬ (b : Int) - (k : Int) < most := by have := HM1.out; have := HB.out; omega
            go_wp2
            go_meet
            case rel => exact ⟨rfl, rfl⟩
          · have hb4 : b = t := by omega
            obtain ⟨g, hag, hgk⟩ := HC.out b true (by rw [hb4]; exact HH.out.c (by omega))
            subst hag
            clear hb4
            go_wp2
            go_meet
            case rel => exact ⟨rfl, rfl⟩
        · have hbI : ¬ (b : Int) < (Q.sent : Int) := by omega
          go_wp2
          go_meet
          case rel => exact ⟨rfl, rfl⟩
      case rest =>
      obtain ⟨rfl, hwd⟩ := hcut
      subst hwd
      obtain ⟨w2, hw2⟩ : ∃ x, x = wc := ⟨wc, rfl⟩
      subst hw2
      by_cases hm0 : m1 = 0
      · have hmin : min ((t : Int) - (k : Int)) most < 1 := by have := HM1.out; omega
        have HMIN : Hid (AA = Q.left ∧ SX = []) := HAA.out.1 hmin
        have heq : ((k : Int) == (b : Int)) = true := by rw [beq_iff_eq]; have := HB.out; omega
        clear hmin hm0
        go_wp2
        go_ret2
        exact ⟨by rw [HMIN.out.1, HMIN.out.2]; rfl, Below.refl _ _⟩
      · have hmin : ¬ min ((t : Int) - (k : Int)) most < 1 := by have := HM1.out; omega
        have HMIN : Hid (AA = (Q.left + (k : Int)) % 4294967296 ∧ SX = (Q.bs.drop k).take (min ((t : Int) - (k : Int)) most).toNat) := HAA.out.2 (by omega)
        have heq : ((k : Int) == (b : Int)) = false := by rw [beq_eq_false_iff_ne]; have := HB.out; omega
        have HEX : Hid ((strB Q.bs).extract k b = strB ((Q.bs.drop k).take (min ((t : Int) - (k : Int)) most).toNat)) := by
          show _ = _
          rw [strB_extract, show b - k = (min ((t : Int) - (k : Int)) most).toNat by have := HM1.out; have := HB.out; omega]
          rfl
        have hss : (strB Q.bs).size = Q.bs.length := strB_size _
        have hbS : (b : Int) ≤ ((strB Q.bs).size : Int) := by rw [hss]; omega
        have hkb : (k : Int) ≤ (b : Int) := by have := HB.out; omega
        have hkb2 : k ≤ b := by omega
        have hbS2 : b ≤ (strB Q.bs).size := by omega
        have hkS : k ≤ (strB Q.bs).size := by omega
        have hl0 := HF.out.l0
        have hl1 := HF.out.l1
        have hcm : ∀ W, Calls Try.prog 37 #[.int .i64 (Q.left + (k : Int))] W fun e w' => e = .returned (.int .i64 ((Q.left + (k : Int)) % 4294967296)) ∧ w' = W := fun W => mod_any _ W
        have hwr : IntKind.i64.wrap (Q.left + (k : Int)) = Q.left + (k : Int) := by rw [IntKind.wrap_i64] <;> omega
        have d0 : ∀ W, Below w2.heap.size w2 W → W.cell? ⟨r, 0, none⟩ = some (.int .i64 Q.left) := fun W hW => later hW c0
        have d3 : ∀ W, Below w2.heap.size w2 W → W.cell? ⟨r, 3, none⟩ = some (.string (strB Q.bs)) := fun W hW => later hW c3
        clear hmin hm0 hss
        go_upto_region 9 with fail
        refine wp_region_held_drew (S := (fun W => Below w2.heap.size w2 W)) (by kernel_rfl) ?_ (fun hHeld => ?_)
        · first | exact (Below.refl _ _).drew | assumption
        refine wpAnyH_take (i := 0) (oi := ({ dst := some 58, op := Go.Op.move (Go.Operand.tmp 0), type := 27, pos := "ref.go:117", after := #[], guard := none } : Go.Oper)) (v := .pointer (some ⟨r, 0, none⟩)) rfl (by kernel_rfl) (by kernel_rfl) (by kernel_rfl) (fun _ _ _ h => h) (Or.inl ⟨by rfl, ?_⟩) (by assumption) ?_
        · intro wx hSw
          try dsimp only at hSw
          have u0 := d0 wx hSw
          have u3 := d3 wx hSw
          go_simp
          try with_reducible rfl
        try simp only [Act.put, List.setIfInBounds_toArray, List.set_cons_zero, List.set_cons_succ]
        refine wpAnyH_take (i := 1) (oi := ({ dst := some 59, op := Go.Op.nilCheck (Go.Operand.tmp 58), type := 0, pos := "ref.go:117", after := #[{ on := 0, ground := Go.Ground.data }], guard := none } : Go.Oper)) (v := .pointer (some ⟨r, 0, none⟩)) rfl (by kernel_rfl) (by kernel_rfl) (by kernel_rfl) (fun _ _ _ h => h) (Or.inl ⟨by rfl, ?_⟩) (by assumption) ?_
        · intro wx hSw
          try dsimp only at hSw
          have u0 := d0 wx hSw
          have u3 := d3 wx hSw
          go_simp
          try with_reducible rfl
        try simp only [Act.put, List.setIfInBounds_toArray, List.set_cons_zero, List.set_cons_succ]
        refine wpAnyH_take (i := 2) (oi := ({ dst := some 60, op := Go.Op.fieldAddr 45 (Go.Operand.tmp 59) 0, type := 0, pos := "ref.go:117", after := #[{ on := 1, ground := Go.Ground.data }], guard := none } : Go.Oper)) (v := .pointer (some ⟨r, 0, none⟩)) rfl (by kernel_rfl) (by kernel_rfl) (by kernel_rfl) (fun _ _ _ h => h) (Or.inl ⟨by rfl, ?_⟩) (by assumption) ?_
        · intro wx hSw
          try dsimp only at hSw
          have u0 := d0 wx hSw
          have u3 := d3 wx hSw
          go_simp
          try with_reducible rfl
        try simp only [Act.put, List.setIfInBounds_toArray, List.set_cons_zero, List.set_cons_succ]
        refine wpAnyH_take (i := 3) (oi := ({ dst := some 61, op := Go.Op.load 3 (Go.Operand.tmp 60), type := 3, pos := "ref.go:117", after := #[{ on := 2, ground := Go.Ground.data }], guard := none } : Go.Oper)) (v := .int .i64 Q.left) rfl (by kernel_rfl) (by kernel_rfl) (by kernel_rfl) (fun _ _ _ h => h) (Or.inl ⟨by rfl, ?_⟩) (by assumption) ?_
        · intro wx hSw
          try dsimp only at hSw
          have u0 := d0 wx hSw
          have u3 := d3 wx hSw
          go_simp
          try with_reducible rfl
        try simp only [Act.put, List.setIfInBounds_toArray, List.set_cons_zero, List.set_cons_succ]
        refine wpAnyH_take (i := 4) (oi := ({ dst := some 62, op := Go.Op.move (Go.Operand.tmp 6), type := 3, pos := "ref.go:117", after := #[], guard := none } : Go.Oper)) (v := .int .i64 (k : Int)) rfl (by kernel_rfl) (by kernel_rfl) (by kernel_rfl) (fun _ _ _ h => h) (Or.inl ⟨by rfl, ?_⟩) (by assumption) ?_
        · intro wx hSw
          try dsimp only at hSw
          have u0 := d0 wx hSw
          have u3 := d3 wx hSw
          go_simp
          try with_reducible rfl
        try simp only [Act.put, List.setIfInBounds_toArray, List.set_cons_zero, List.set_cons_succ]
        refine wpAnyH_take (i := 5) (oi := ({ dst := some 63, op := Go.Op.binOp Go.BinOp.add 3 (Go.Operand.tmp 61) (Go.Operand.tmp 62) 3, type := 3, pos := "ref.go:117", after := #[{ on := 3, ground := Go.Ground.data }, { on := 4, ground := Go.Ground.data }], guard := none } : Go.Oper)) (v := .int .i64 (Q.left + (k : Int))) rfl (by kernel_rfl) (by kernel_rfl) (by kernel_rfl) (fun _ _ _ h => h) (Or.inl ⟨by rfl, ?_⟩) (by assumption) ?_
        · intro wx hSw
          try dsimp only at hSw
          have u0 := d0 wx hSw
          have u3 := d3 wx hSw
          go_simp
          try with_reducible rfl
        try simp only [Act.put, List.setIfInBounds_toArray, List.set_cons_zero, List.set_cons_succ]
        refine wpAnyH_take (i := 7) (oi := ({ dst := some 65, op := Go.Op.move (Go.Operand.tmp 0), type := 27, pos := "ref.go:117", after := #[], guard := none } : Go.Oper)) (v := .pointer (some ⟨r, 0, none⟩)) rfl (by kernel_rfl) (by kernel_rfl) (by kernel_rfl) (fun _ _ _ h => h) (Or.inl ⟨by rfl, ?_⟩) (by assumption) ?_
        · intro wx hSw
          try dsimp only at hSw
          have u0 := d0 wx hSw
          have u3 := d3 wx hSw
          go_simp
          try with_reducible rfl
        try simp only [Act.put, List.setIfInBounds_toArray, List.set_cons_zero, List.set_cons_succ]
        refine wpAnyH_take (i := 8) (oi := ({ dst := some 66, op := Go.Op.nilCheck (Go.Operand.tmp 65), type := 0, pos := "ref.go:117", after := #[{ on := 7, ground := Go.Ground.data }], guard := none } : Go.Oper)) (v := .pointer (some ⟨r, 0, none⟩)) rfl (by kernel_rfl) (by kernel_rfl) (by kernel_rfl) (fun _ _ _ h => h) (Or.inl ⟨by rfl, ?_⟩) (by assumption) ?_
        · intro wx hSw
          try dsimp only at hSw
          have u0 := d0 wx hSw
          have u3 := d3 wx hSw
          go_simp
          try with_reducible rfl
        try simp only [Act.put, List.setIfInBounds_toArray, List.set_cons_zero, List.set_cons_succ]
        refine wpAnyH_take (i := 9) (oi := ({ dst := some 67, op := Go.Op.fieldAddr 45 (Go.Operand.tmp 66) 3, type := 0, pos := "ref.go:117", after := #[{ on := 8, ground := Go.Ground.data }], guard := none } : Go.Oper)) (v := .pointer (some ⟨r, 3, none⟩)) rfl (by kernel_rfl) (by kernel_rfl) (by kernel_rfl) (fun _ _ _ h => h) (Or.inl ⟨by rfl, ?_⟩) (by assumption) ?_
        · intro wx hSw
          try dsimp only at hSw
          have u0 := d0 wx hSw
          have u3 := d3 wx hSw
          go_simp
          try with_reducible rfl
        try simp only [Act.put, List.setIfInBounds_toArray, List.set_cons_zero, List.set_cons_succ]
        refine wpAnyH_take (i := 10) (oi := ({ dst := some 68, op := Go.Op.load 9 (Go.Operand.tmp 67), type := 9, pos := "ref.go:117", after := #[{ on := 9, ground := Go.Ground.data }], guard := none } : Go.Oper)) (v := .string (strB Q.bs)) rfl (by kernel_rfl) (by kernel_rfl) (by kernel_rfl) (fun _ _ _ h => h) (Or.inl ⟨by rfl, ?_⟩) (by assumption) ?_
        · intro wx hSw
          try dsimp only at hSw
          have u0 := d0 wx hSw
          have u3 := d3 wx hSw
          go_simp
          try with_reducible rfl
        try simp only [Act.put, List.setIfInBounds_toArray, List.set_cons_zero, List.set_cons_succ]
        refine wpAnyH_take (i := 11) (oi := ({ dst := some 69, op := Go.Op.move (Go.Operand.tmp 6), type := 3, pos := "ref.go:117", after := #[], guard := none } : Go.Oper)) (v := .int .i64 (k : Int)) rfl (by kernel_rfl) (by kernel_rfl) (by kernel_rfl) (fun _ _ _ h => h) (Or.inl ⟨by rfl, ?_⟩) (by assumption) ?_
        · intro wx hSw
          try dsimp only at hSw
          have u0 := d0 wx hSw
          have u3 := d3 wx hSw
          go_simp
          try with_reducible rfl
        try simp only [Act.put, List.setIfInBounds_toArray, List.set_cons_zero, List.set_cons_succ]
        refine wpAnyH_take (i := 12) (oi := ({ dst := some 70, op := Go.Op.move (Go.Operand.tmp 7), type := 3, pos := "ref.go:117", after := #[], guard := none } : Go.Oper)) (v := .int .i64 (b : Int)) rfl (by kernel_rfl) (by kernel_rfl) (by kernel_rfl) (fun _ _ _ h => h) (Or.inl ⟨by rfl, ?_⟩) (by assumption) ?_
        · intro wx hSw
          try dsimp only at hSw
          have u0 := d0 wx hSw
          have u3 := d3 wx hSw
          go_simp
          try with_reducible rfl
        try simp only [Act.put, List.setIfInBounds_toArray, List.set_cons_zero, List.set_cons_succ]
        refine wpAnyH_take (i := 13) (oi := ({ dst := some 71, op := Go.Op.slice 9 (Go.Operand.tmp 68) (some (Go.Operand.tmp 69)) (some (Go.Operand.tmp 70)) none, type := 9, pos := "ref.go:117", after := #[{ on := 10, ground := Go.Ground.data }, { on := 11, ground := Go.Ground.data }, { on := 12, ground := Go.Ground.data }], guard := none } : Go.Oper)) (v := .string ((strB Q.bs).extract k b)) rfl (by kernel_rfl) (by kernel_rfl) (by kernel_rfl) (fun _ _ _ h => h) (Or.inl ⟨by rfl, ?_⟩) (by assumption) ?_
        · intro wx hSw
          try dsimp only at hSw
          have u0 := d0 wx hSw
          have u3 := d3 wx hSw
          go_simp
          try with_reducible rfl
        try simp only [Act.put, List.setIfInBounds_toArray, List.set_cons_zero, List.set_cons_succ]
        refine wpAnyH_ready (rs := [6]) (by kernel_rfl) (by simp) ?_
        refine AllReadyH.cons (o := ({ dst := some 64, op := Go.Op.call { callee := Go.Callee.value (Go.Operand.func 37), args := #[Go.Operand.tmp 63], argTypes := #[3] }, type := 3, pos := "ref.go:117", after := #[{ on := 5, ground := Go.Ground.data }], guard := none } : Go.Oper)) rfl (fun K hK => ?_) AllReadyH.nil
        go_simp
        refine (hcm _).mono ?_
        rintro e wk ⟨rfl, rfl⟩
        refine hK.out _ _ hHeld (fun hHeld => ?_)
        clear hK K
        try simp only [Act.put, List.setIfInBounds_toArray, List.set_cons_zero, List.set_cons_succ]
        refine wpAnyH_take (i := 14) (oi := ({ dst := some 4, op := Go.Op.assign (Go.Operand.tmp 64), type := 3, pos := "ref.go:117", after := #[{ on := 6, ground := Go.Ground.data }, { on := 6, ground := Go.Ground.chain }, { on := 0, ground := Go.Ground.phase }, { on := 1, ground := Go.Ground.phase }, { on := 2, ground := Go.Ground.phase }, { on := 3, ground := Go.Ground.phase }, { on := 4, ground := Go.Ground.phase }, { on := 5, ground := Go.Ground.phase }, { on := 6, ground := Go.Ground.phase }, { on := 7, ground := Go.Ground.textOnly Go.Departure.lateStores }, { on := 8, ground := Go.Ground.textOnly Go.Departure.lateStores }, { on := 9, ground := Go.Ground.textOnly Go.Departure.lateStores }, { on := 10, ground := Go.Ground.textOnly Go.Departure.lateStores }, { on := 11, ground := Go.Ground.textOnly Go.Departure.lateStores }, { on := 12, ground := Go.Ground.textOnly Go.Departure.lateStores }, { on := 13, ground := Go.Ground.textOnly Go.Departure.lateStoresUnsure }], guard := none } : Go.Oper)) (v := .int .i64 ((Q.left + (k : Int)) % 4294967296)) rfl (by kernel_rfl) (by kernel_rfl) (by kernel_rfl) (fun _ _ _ h => h) (Or.inl ⟨by rfl, ?_⟩) (by assumption) ?_
        · intro wx hSw
          try dsimp only at hSw
          have u0 := d0 wx hSw
          have u3 := d3 wx hSw
          go_simp
          try with_reducible rfl
        try simp only [Act.put, List.setIfInBounds_toArray, List.set_cons_zero, List.set_cons_succ]
        refine wpAnyH_take (i := 15) (oi := ({ dst := some 5, op := Go.Op.assign (Go.Operand.tmp 71), type := 9, pos := "ref.go:117", after := #[{ on := 13, ground := Go.Ground.data }, { on := 14, ground := Go.Ground.chain }, { on := 0, ground := Go.Ground.phase }, { on := 1, ground := Go.Ground.phase }, { on := 2, ground := Go.Ground.phase }, { on := 3, ground := Go.Ground.phase }, { on := 4, ground := Go.Ground.phase }, { on := 5, ground := Go.Ground.phase }, { on := 6, ground := Go.Ground.phase }, { on := 7, ground := Go.Ground.phase }, { on := 8, ground := Go.Ground.phase }, { on := 9, ground := Go.Ground.phase }, { on := 10, ground := Go.Ground.phase }, { on := 11, ground := Go.Ground.phase }, { on := 12, ground := Go.Ground.phase }, { on := 13, ground := Go.Ground.phase }, { on := 14, ground := Go.Ground.phase }], guard := none } : Go.Oper)) (v := .string ((strB Q.bs).extract k b)) rfl (by kernel_rfl) (by kernel_rfl) (by kernel_rfl) (fun _ _ _ h => h) (Or.inl ⟨by rfl, ?_⟩) (by assumption) ?_
        · intro wx hSw
          try dsimp only at hSw
          have u0 := d0 wx hSw
          have u3 := d3 wx hSw
          go_simp
          try with_reducible rfl
        try simp only [Act.put, List.setIfInBounds_toArray, List.set_cons_zero, List.set_cons_succ]
        refine wpAnyH_done (by kernel_rfl) ?_ _
        go_wp2
        go_ret2
        exact ⟨by rw [HMIN.out.1, HMIN.out.2, ← HEX.out]; rfl, hHeld⟩
end Go.Proofs.Ytlbdecjppgjdiaa
