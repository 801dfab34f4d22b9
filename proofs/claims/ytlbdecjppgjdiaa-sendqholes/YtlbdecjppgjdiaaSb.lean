/- SendqHoles: the walk. -/
import Derived.Test.YtlbdecjppgjdiaaSa
import Derived.Test.YtlbdecjppgjdiaaFlat
namespace Go.Proofs.Ytlbdecjppgjdiaa
open Go.RowKit Go.Maps Go.Lib
set_option maxRecDepth 100000
set_option linter.unusedVariables false
set_option linter.unusedSimpArgs false


theorem zeroG (w : World) : (zeroValue 58).run Try.prog w = .ok (.agg (gArr fun _ => false)) w := by kernel_rfl
theorem idxG (G : Nat → Bool) (j : Nat) (hj : j < 100) (w : World) : (Instr.index 58 (.agg (gArr G)) (.int .i64 (j : Int))).run Try.prog w = .ok (.bool (G j)) w := by
  have h2 := gArr_at G hj
  simp [Instr.index, run_underlying Try.underlying58, asIntOf, go_sem, Try.sizeOf4, Go.isAgg, run_underlying Try.underlying4, h2]
  intro h
  omega
theorem one_byte {w : World} {b i : Nat} (hi : i < 100) (hc : w.cell? ⟨b, 0, none⟩ = some (.int .u8 (i : Int))) : (convert 57 9 (.slice (some ⟨b, 0, none⟩) 1 1)).run Try.prog w = .ok (.string (strB [UInt8.ofNat i])) w := by
  have := run_convert_bytes_back (P := Try.prog) w 57 9 5 ⟨b, 0, none⟩ 1 [UInt8.ofNat i] Try.underlying57 Try.underlying5 Try.underlying9 (fun j hj => by
    obtain rfl : j = 0 := by simpa using hj
    rw [Addr.add_mid]
    show w.cell? ⟨b, 0, none⟩ = _
    rw [hc]
    have : (UInt8.ofNat i).toNat = i := by simp; omega
    show some (Value.int .u8 (i : Int)) = some (.int .u8 (((UInt8.ofNat i).toNat : Nat) : Int))
    rw [this])
  exact this
set_option maxHeartbeats 8000000 in
theorem holes_any (first most : Int) (a : Option Addr) (n cap : Nat) (w : World) (hr : Flat.Rows w a n 2 [.i, .i]) (hz : n < 1000000000000000) :
    Calls Try.prog 5 #[.int .i64 first, .slice a n cap, .int .i64 most] w fun e w' => e = .returned (.bool true) ∧ Below w.heap.size w w' := by
  have HA : Hid (Flat.Rows w a n 2 [.i, .i]) := hr
  clear hr
  have mixed : Try.prog.follows .mixedOrders = true := by kernel_rfl
  go_enter Try.func5, Try.ntmps5
  go_wp2_with fail
  refine (works_any w).mono ?_
  rintro e w1 ⟨rfl, hb1⟩
  go_wp2_with fail
  refine (among_any first 4294967296 w1 (by decide) (by decide)).mono ?_
  rintro e w2 ⟨rfl, rfl⟩
  go_wp2_with fail
  refine (among_any most 30 w2 (by decide) (by decide)).mono ?_
  rintro e w2' ⟨rfl, rfl⟩
  obtain ⟨fi, hfi⟩ : ∃ x, x = first % 4294967296 := ⟨_, rfl⟩
  have hf0 : 0 ≤ fi ∧ fi ≤ 4294967295 := by rw [hfi]; omega
  obtain ⟨mo, hmo⟩ : ∃ x, x = most % 30 := ⟨_, rfl⟩
  have hm0 : 0 ≤ mo ∧ mo < 30 := by rw [hmo]; omega
  rw [← hfi, ← hmo]
  clear hfi hmo
  go_wp2_with fail
  refine (new_t fi 200 w2' hf0.1 hf0.2 (by decide) (by decide)).mono ?_
  rintro e w3 ⟨rfl, hX3, hb3⟩
  have hbw := bt hb1 hb3
  have hR3 : w2'.heap.size ≤ w3.heap.size := hb3.size
  have hwR : w.heap.size ≤ w2'.heap.size := hb1.size
  generalize hz2 : w2'.heap.size = R at *
  have HX3 : Hid (QX w3 R R (Q0 200 fi) (.slice none 0 0) (.slice none 0 0)) := hX3
  have HB3 : Hid (Below w.heap.size w w3) := hbw
  clear hz2 hb3 hX3 hbw hb1
  obtain ⟨ms, hms⟩ : ∃ x, x = 1 + mo := ⟨_, rfl⟩
  have hms0 : 1 ≤ ms ∧ ms ≤ 30 := by omega
  have HMS : Hid (ms = 1 + mo) := hms
  go_upto_region 7 with fail
  try rw [← hms]
  clear hms
  go_wp2
  -- the text
  go_loopw [9, 43] (fun s9 s43 W => ∃ i : Nat, i ≤ 100 ∧ s43 = .int .i64 (i : Int) ∧ s9 = .string (strB (T100.take i)) ∧ Hid (Below w3.heap.size w3 W)) (fun _ s43 _ => 100 - (RowKit.intOf s43).toNat)
  case atStart => exact ⟨0, Nat.zero_le _, rfl, rfl, Below.refl _ _⟩
  case round =>
    obtain ⟨i, hi, rfl, rfl, HBB⟩ := hrel
    by_cases hlt : i < 100
    · as_aux_lemma =>
      -- @1
      have hltI : (i : Int) < 100 := by omega
      have hw8 : IntKind.u8.wrap (i : Int) = (i : Int) := by rw [show IntKind.u8.wrap (i : Int) = (i : Int) % 256 from rfl]; omega
      have hbx := bel1 wr (.cells #[.int .u8 (i : Int)] 5)
      have hcv := one_byte (w := wr.alloc (.cells #[.int .u8 (i : Int)] 5)) (b := wr.heap.size) hlt ((At.box wr #[.int .u8 (i : Int)] 5).2 0 _ rfl).1
      have hcat : strB (T100.take i) ++ strB [UInt8.ofNat i] = strB (T100.take (i + 1)) := by
        rw [List.take_add_one, T100_at hlt]
        apply ByteArray.ext
        simp [strB, ByteArray.data_append]
      have hsz : (strB (T100.take i)).size ≤ 100 := by rw [strB_size, List.length_take]; omega
      have hsz1 : (strB [UInt8.ofNat i]).size = 1 := by rw [strB_size]; rfl
      have hcc : ¬ 9223372036854775807 < (strB (T100.take i)).size + (strB [UInt8.ofNat i]).size := by omega
      have HBN : Hid (Below w3.heap.size w3 (wr.alloc (.cells #[.int .u8 (i : Int)] 5))) := bt HBB.out hbx
      have HCAT : Hid (strB (T100.take i) ++ strB [UInt8.ofNat i] = strB (T100.take (i + 1))) := hcat
      generalize strB (T100.take i) = ts at *
      generalize strB [UInt8.ofNat i] = t1 at *
      clear hcat hbx
      go_wp2
      exact ⟨⟨i + 1, by omega, by first | rfl | simp, by rw [HCAT.out], HBN⟩, by simp [RowKit.intOf]; omega⟩
      -- @/1
    obtain rfl : i = 100 := by omega
    have et : T100.take 100 = T100 := List.take_of_length_le (by rw [T100_len]; exact Nat.le_refl _)
    rw [et]
    clear et
    have HB4 : Hid (Below w.heap.size w wr) := HB3.out.trans (HBB.out.mono (HB3.out.size))
    have hR4 : R ≤ wr.heap.size := Nat.le_trans hR3 HBB.out.size
    have hX4 := HX3.out.later HBB.out
    have e1 : wrN (Q0 200 fi) (strB T100) = 100 := by show min (strB T100).size (200 - 0) = 100; rw [strB_size, T100_len]; decide
    have hfu : fullB (Q0 200 fi) (strB T100) = false := by simp [fullB]
    have hc5 := write_t hX4 (q0_fine (by decide) (by decide) hf0.1 hf0.2) hR4 (strB T100) (by rw [strB_size, T100_len]; decide) hfu
    generalize hts : strB T100 = tx at *
    have HTS : Hid (strB T100 = tx) := hts
    clear hts hfu HBB HX3 HB3 hX4
    have hi100 : ¬ ((100 : Nat) : Int) < 100 := by decide
    go_wp2_with fail
    refine hc5.mono ?_
    rintro e w5 ⟨rfl, ⟨vb5, hX5⟩, ht5⟩
    have hX5' : QX w5 R R ⟨200, fi, 0, T100, []⟩ vb5 (.slice none 0 0) := hX5.eq (by
      unfold wrQ
      rw [e1, ← HTS.out]
      show (⟨200, fi, 0, [] ++ T100.take 100, []⟩ : Qu) = _
      rw [List.nil_append, List.take_of_length_le (by rw [T100_len]; exact Nat.le_refl _)])
    have hf5 : (⟨200, fi, 0, T100, []⟩ : Qu).Fine := ⟨by show (1 : Int) ≤ 200; decide, by show (200 : Int) ≤ 65536; decide, hf0.1, hf0.2, by show (T100.length : Int) ≤ 200; rw [T100_len]; decide, Nat.zero_le _, List.Pairwise.nil, fun e he => by cases he⟩
    have hc6 := next_any hX5' hf5 100 100 (by decide) (by decide)
    have HT5 : Hid (TK R wr w5) := ht5
    clear hX5 hX5' ht5 hc5 e1
    go_wp2_with fail
    refine hc6.mono ?_
    rintro e w6 ⟨rfl, hX6, ht6⟩
    have hX6' : QX w6 R R (QH fi []) vb5 (.slice none 0 0) := hX6.eq (by
      unfold sndQ
      have : sndN ⟨200, fi, 0, T100, []⟩ (min (max 100 0 - ((0 : Nat) : Int)) 100) = 100 := by show (max (min ((T100.length : Int) - ((0 : Nat) : Int)) (min (max 100 0 - ((0 : Nat) : Int)) 100)) 0).toNat = 100; rw [T100_len]; decide
      show (⟨200, fi, 0 + sndN ⟨200, fi, 0, T100, []⟩ (min (max 100 0 - ((0 : Nat) : Int)) 100), T100, []⟩ : Qu) = _
      rw [this])
    have HB6 : Hid (Below w.heap.size w w6) := HB4.out.trans (((HT5.out.trans ht6).below hR4).mono hwR)
    have hR6 : R ≤ w6.heap.size := Nat.le_trans hR4 (HT5.out.trans ht6).size
    clear hX6 ht6 HT5 HB4 hc6 hf5
    have hz58 := zeroG w6
    have hbG := bel1 w6 (.cells (gArr fun _ => false) 58)
    have hG := At.box w6 (gArr fun _ => false) 58
    have hGk := Kd.box w6 (gArr fun _ => false) 58
    go_upto_region 16 with fail
    have hX7 := hX6'.later hbG
    have HB7 : Hid (Below w.heap.size w (w6.alloc (.cells (gArr fun _ => false) 58))) := bt HB6.out hbG
    have hR7 : R ≤ (w6.alloc (.cells (gArr fun _ => false) 58)).heap.size := Nat.le_trans hR6 hbG.size
    generalize hgB : w6.heap.size = gB at *
    have hRg : R ≤ gB := hR6
    have HH7 : Hid (HX (w6.alloc (.cells (gArr fun _ => false) 58)) R R gB fi (fun _ => false) [] vb5 (.slice none 0 0)) := ⟨hX7, ⟨List.Pairwise.nil, fun e he => by cases he⟩, hG, hGk, hRg, fun k hk => ⟨(fun h => by cases h), (fun ⟨e, he, _⟩ => by cases he)⟩⟩
    clear hz58 hG hGk hX7 hX6' HB6 hgB hR6 hbG
    generalize w6.alloc (.cells (gArr fun _ => false) 58) = w7 at *
    go_wp2
    go_loopw [12] (fun s12 W => ∃ (i : Nat) (G : Nat → Bool) (L : List Pt) (vp : Value), i ≤ n ∧ i ≤ 30 ∧ s12 = .int .i64 (i : Int) ∧ Hid (HX W R R gB fi G L vb5 vp) ∧ Hid (Below w.heap.size w W) ∧ R ≤ W.heap.size) (fun s12 _ => n - (RowKit.intOf s12).toNat)
    case atStart => exact ⟨0, _, _, _, Nat.zero_le _, by decide, rfl, HH7, HB7, hR7⟩
    case round =>
      clear HH7 HB7 hR7
      obtain ⟨i, G, L, vp, hin, hi30, rfl, HH, HB, hRr⟩ := hrel
      by_cases hlt : i < n ∧ i < 30
      · -- @2
        obtain ⟨ab, off, rfl, hrow⟩ : ∃ b off, a = some ⟨b, off, none⟩ ∧ ∀ k, k < n → ∃ cs : List Value, Flat.Ok [.i, .i] cs ∧ ∀ j v, cs[j]? = some v → w.cell? ⟨b, off + k * 2 + j, none⟩ = some v := by
          rcases HA.out with h | h
          · omega
          · exact h
        obtain ⟨cs, ⟨hcl, hck⟩, hcc⟩ := hrow i hlt.1
        clear hrow
        match cs, hcl with
        | [v0, v1], _ =>
        obtain ⟨xf, rfl, wxf⟩ := hck 0 _ _ rfl rfl
        obtain ⟨xt, rfl, wxt⟩ := hck 1 _ _ rfl rfl
        have x0 := later HB.out (hcc 0 _ rfl)
        have x1 := later HB.out (hcc 1 _ rfl)
        rw [Nat.add_zero] at x0
        clear hcc hck
        have hk1 : (i : Int) < (n : Int) := by omega
        have hk2 : (i : Int) < 30 := by omega
        have hk3 : (0 : Int) ≤ (i : Int) := by omega
        have hx0 : ∀ W, Below wr.heap.size wr W → W.cell? ⟨ab, off + i * 2, none⟩ = some (.int .i64 xf) := fun W hW => later hW x0
        have hx1 : ∀ W, Below wr.heap.size wr W → W.cell? ⟨ab, off + i * 2 + 1, none⟩ = some (.int .i64 xt) := fun W hW => later hW x1
        have hca : ∀ W, Calls Try.prog 17 #[.int .i64 xf, .int .i64 101] W fun e w' => e = .returned (.int .i64 (xf % 101)) ∧ w' = W := fun W => among_any xf 101 W (by decide) (by decide)
        have hcb : ∀ W, Calls Try.prog 17 #[.int .i64 xt, .int .i64 101] W fun e w' => e = .returned (.int .i64 (xt % 101)) ∧ w' = W := fun W => among_any xt 101 W (by decide) (by decide)
        obtain ⟨na, hna, hna1⟩ : ∃ na : Nat, xf % 101 = (na : Int) ∧ na ≤ 100 := ⟨(xf % 101).toNat, by omega, by omega⟩
        obtain ⟨nb, hnb, hnb1⟩ : ∃ nb : Nat, xt % 101 = (nb : Int) ∧ nb ≤ 100 := ⟨(xt % 101).toNat, by omega, by omega⟩
        rw [hna] at hca
        rw [hnb] at hcb
        clear hna hnb x0 x1
        go_upto_region 19 with fail
        refine wp_region_held_drew (S := (fun W => Below wr.heap.size wr W)) (by kernel_rfl) ?_ (fun hHeld => ?_)
        · first | exact (Below.refl _ _).drew | assumption
        refine wpAnyH_take (i := 0) (oi := ({ dst := some 68, op := Go.Op.move (Go.Operand.tmp 1), type := 31, pos := "theorems.go:99", after := #[], guard := none } : Go.Oper)) (v := .slice (some ⟨ab, off, none⟩) n cap) rfl (by kernel_rfl) (by kernel_rfl) (by kernel_rfl) (fun _ _ _ h => h) (Or.inl ⟨by rfl, ?_⟩) (by assumption) ?_
        · intro wx hSw
          try dsimp only at hSw
          have u0 := hx0 wx hSw
          have u1 := hx1 wx hSw
          go_simp
          try with_reducible rfl
        try simp only [Act.put, List.setIfInBounds_toArray, List.set_cons_zero, List.set_cons_succ]
        refine wpAnyH_take (i := 1) (oi := ({ dst := some 69, op := Go.Op.move (Go.Operand.tmp 12), type := 3, pos := "theorems.go:99", after := #[], guard := none } : Go.Oper)) (v := .int .i64 (i : Int)) rfl (by kernel_rfl) (by kernel_rfl) (by kernel_rfl) (fun _ _ _ h => h) (Or.inl ⟨by rfl, ?_⟩) (by assumption) ?_
        · intro wx hSw
          try dsimp only at hSw
          have u0 := hx0 wx hSw
          have u1 := hx1 wx hSw
          go_simp
          try with_reducible rfl
        try simp only [Act.put, List.setIfInBounds_toArray, List.set_cons_zero, List.set_cons_succ]
        refine wpAnyH_take (i := 2) (oi := ({ dst := some 70, op := Go.Op.indexAddr 31 (Go.Operand.tmp 68) (Go.Operand.tmp 69), type := 0, pos := "theorems.go:99", after := #[{ on := 0, ground := Go.Ground.data }, { on := 1, ground := Go.Ground.data }], guard := none } : Go.Oper)) (v := .pointer (some ⟨ab, off + i * 2, none⟩)) rfl (by kernel_rfl) (by kernel_rfl) (by kernel_rfl) (fun _ _ _ h => h) (Or.inl ⟨by rfl, ?_⟩) (by assumption) ?_
        · intro wx hSw
          try dsimp only at hSw
          have u0 := hx0 wx hSw
          have u1 := hx1 wx hSw
          go_simp
          try with_reducible rfl
        try simp only [Act.put, List.setIfInBounds_toArray, List.set_cons_zero, List.set_cons_succ]
        refine wpAnyH_take (i := 3) (oi := ({ dst := some 71, op := Go.Op.fieldAddr 60 (Go.Operand.tmp 70) 0, type := 0, pos := "theorems.go:99", after := #[{ on := 2, ground := Go.Ground.data }], guard := none } : Go.Oper)) (v := .pointer (some ⟨ab, off + i * 2, none⟩)) rfl (by kernel_rfl) (by kernel_rfl) (by kernel_rfl) (fun _ _ _ h => h) (Or.inl ⟨by rfl, ?_⟩) (by assumption) ?_
        · intro wx hSw
          try dsimp only at hSw
          have u0 := hx0 wx hSw
          have u1 := hx1 wx hSw
          go_simp
          try with_reducible rfl
        try simp only [Act.put, List.setIfInBounds_toArray, List.set_cons_zero, List.set_cons_succ]
        refine wpAnyH_take (i := 4) (oi := ({ dst := some 72, op := Go.Op.load 3 (Go.Operand.tmp 71), type := 3, pos := "theorems.go:99", after := #[{ on := 3, ground := Go.Ground.data }], guard := none } : Go.Oper)) (v := .int .i64 xf) rfl (by kernel_rfl) (by kernel_rfl) (by kernel_rfl) (fun _ _ _ h => h) (Or.inl ⟨by rfl, ?_⟩) (by assumption) ?_
        · intro wx hSw
          try dsimp only at hSw
          have u0 := hx0 wx hSw
          have u1 := hx1 wx hSw
          go_simp
          try with_reducible rfl
        try simp only [Act.put, List.setIfInBounds_toArray, List.set_cons_zero, List.set_cons_succ]
        refine wpAnyH_take (i := 6) (oi := ({ dst := some 74, op := Go.Op.move (Go.Operand.tmp 1), type := 31, pos := "theorems.go:99", after := #[], guard := none } : Go.Oper)) (v := .slice (some ⟨ab, off, none⟩) n cap) rfl (by kernel_rfl) (by kernel_rfl) (by kernel_rfl) (fun _ _ _ h => h) (Or.inl ⟨by rfl, ?_⟩) (by assumption) ?_
        · intro wx hSw
          try dsimp only at hSw
          have u0 := hx0 wx hSw
          have u1 := hx1 wx hSw
          go_simp
          try with_reducible rfl
        try simp only [Act.put, List.setIfInBounds_toArray, List.set_cons_zero, List.set_cons_succ]
        refine wpAnyH_take (i := 7) (oi := ({ dst := some 75, op := Go.Op.move (Go.Operand.tmp 12), type := 3, pos := "theorems.go:99", after := #[], guard := none } : Go.Oper)) (v := .int .i64 (i : Int)) rfl (by kernel_rfl) (by kernel_rfl) (by kernel_rfl) (fun _ _ _ h => h) (Or.inl ⟨by rfl, ?_⟩) (by assumption) ?_
        · intro wx hSw
          try dsimp only at hSw
          have u0 := hx0 wx hSw
          have u1 := hx1 wx hSw
          go_simp
          try with_reducible rfl
        try simp only [Act.put, List.setIfInBounds_toArray, List.set_cons_zero, List.set_cons_succ]
        refine wpAnyH_take (i := 8) (oi := ({ dst := some 76, op := Go.Op.indexAddr 31 (Go.Operand.tmp 74) (Go.Operand.tmp 75), type := 0, pos := "theorems.go:99", after := #[{ on := 6, ground := Go.Ground.data }, { on := 7, ground := Go.Ground.data }], guard := none } : Go.Oper)) (v := .pointer (some ⟨ab, off + i * 2, none⟩)) rfl (by kernel_rfl) (by kernel_rfl) (by kernel_rfl) (fun _ _ _ h => h) (Or.inl ⟨by rfl, ?_⟩) (by assumption) ?_
        · intro wx hSw
          try dsimp only at hSw
          have u0 := hx0 wx hSw
          have u1 := hx1 wx hSw
          go_simp
          try with_reducible rfl
        try simp only [Act.put, List.setIfInBounds_toArray, List.set_cons_zero, List.set_cons_succ]
        refine wpAnyH_take (i := 9) (oi := ({ dst := some 77, op := Go.Op.fieldAddr 60 (Go.Operand.tmp 76) 1, type := 0, pos := "theorems.go:99", after := #[{ on := 8, ground := Go.Ground.data }], guard := none } : Go.Oper)) (v := .pointer (some ⟨ab, off + i * 2 + 1, none⟩)) rfl (by kernel_rfl) (by kernel_rfl) (by kernel_rfl) (fun _ _ _ h => h) (Or.inl ⟨by rfl, ?_⟩) (by assumption) ?_
        · intro wx hSw
          try dsimp only at hSw
          have u0 := hx0 wx hSw
          have u1 := hx1 wx hSw
          go_simp
          try with_reducible rfl
        try simp only [Act.put, List.setIfInBounds_toArray, List.set_cons_zero, List.set_cons_succ]
        refine wpAnyH_take (i := 10) (oi := ({ dst := some 78, op := Go.Op.load 3 (Go.Operand.tmp 77), type := 3, pos := "theorems.go:99", after := #[{ on := 9, ground := Go.Ground.data }], guard := none } : Go.Oper)) (v := .int .i64 xt) rfl (by kernel_rfl) (by kernel_rfl) (by kernel_rfl) (fun _ _ _ h => h) (Or.inl ⟨by rfl, ?_⟩) (by assumption) ?_
        · intro wx hSw
          try dsimp only at hSw
          have u0 := hx0 wx hSw
          have u1 := hx1 wx hSw
          go_simp
          try with_reducible rfl
        try simp only [Act.put, List.setIfInBounds_toArray, List.set_cons_zero, List.set_cons_succ]
        refine wpAnyH_ready (rs := [5]) (by kernel_rfl) (by simp) ?_
        refine AllReadyH.cons (o := ({ dst := some 73, op := Go.Op.call { callee := Go.Callee.value (Go.Operand.func 17), args := #[Go.Operand.tmp 72, Go.Operand.const (Go.Value.int Go.IntKind.i64 101)], argTypes := #[3, 3] }, type := 3, pos := "theorems.go:99", after := #[{ on := 4, ground := Go.Ground.data }], guard := none } : Go.Oper)) rfl (fun K hK => ?_) AllReadyH.nil
        go_simp
        refine (hca _).mono ?_
        rintro e wk ⟨rfl, rfl⟩
        refine hK.out _ _ hHeld (fun hHeld => ?_)
        clear hK K
        try simp only [Act.put, List.setIfInBounds_toArray, List.set_cons_zero, List.set_cons_succ]
        refine wpAnyH_ready (rs := [11]) (by kernel_rfl) (by simp) ?_
        refine AllReadyH.cons (o := ({ dst := some 79, op := Go.Op.call { callee := Go.Callee.value (Go.Operand.func 17), args := #[Go.Operand.tmp 78, Go.Operand.const (Go.Value.int Go.IntKind.i64 101)], argTypes := #[3, 3] }, type := 3, pos := "theorems.go:99", after := #[{ on := 10, ground := Go.Ground.data }, { on := 5, ground := Go.Ground.chain }], guard := none } : Go.Oper)) rfl (fun K hK => ?_) AllReadyH.nil
        go_simp
        refine (hcb _).mono ?_
        rintro e wk ⟨rfl, rfl⟩
        refine hK.out _ _ hHeld (fun hHeld => ?_)
        clear hK K
        try simp only [Act.put, List.setIfInBounds_toArray, List.set_cons_zero, List.set_cons_succ]
        refine wpAnyH_take (i := 12) (oi := ({ dst := some 13, op := Go.Op.assign (Go.Operand.tmp 73), type := 3, pos := "theorems.go:99", after := #[{ on := 5, ground := Go.Ground.data }, { on := 11, ground := Go.Ground.chain }, { on := 0, ground := Go.Ground.phase }, { on := 1, ground := Go.Ground.phase }, { on := 2, ground := Go.Ground.phase }, { on := 3, ground := Go.Ground.phase }, { on := 4, ground := Go.Ground.phase }, { on := 5, ground := Go.Ground.phase }, { on := 6, ground := Go.Ground.textOnly Go.Departure.lateStores }, { on := 7, ground := Go.Ground.textOnly Go.Departure.lateStores }, { on := 8, ground := Go.Ground.textOnly Go.Departure.lateStores }, { on := 9, ground := Go.Ground.textOnly Go.Departure.lateStores }, { on := 10, ground := Go.Ground.textOnly Go.Departure.lateStores }, { on := 11, ground := Go.Ground.textOnly Go.Departure.lateStoresUnsure }], guard := none } : Go.Oper)) (v := .int .i64 (na : Int)) rfl (by kernel_rfl) (by kernel_rfl) (by kernel_rfl) (fun _ _ _ h => h) (Or.inl ⟨by rfl, ?_⟩) (by assumption) ?_
        · intro wx hSw
          try dsimp only at hSw
          have u0 := hx0 wx hSw
          have u1 := hx1 wx hSw
          go_simp
          try with_reducible rfl
        try simp only [Act.put, List.setIfInBounds_toArray, List.set_cons_zero, List.set_cons_succ]
        refine wpAnyH_take (i := 13) (oi := ({ dst := some 14, op := Go.Op.assign (Go.Operand.tmp 79), type := 3, pos := "theorems.go:99", after := #[{ on := 11, ground := Go.Ground.data }, { on := 12, ground := Go.Ground.chain }, { on := 0, ground := Go.Ground.phase }, { on := 1, ground := Go.Ground.phase }, { on := 2, ground := Go.Ground.phase }, { on := 3, ground := Go.Ground.phase }, { on := 4, ground := Go.Ground.phase }, { on := 5, ground := Go.Ground.phase }, { on := 6, ground := Go.Ground.phase }, { on := 7, ground := Go.Ground.phase }, { on := 8, ground := Go.Ground.phase }, { on := 9, ground := Go.Ground.phase }, { on := 10, ground := Go.Ground.phase }, { on := 11, ground := Go.Ground.phase }, { on := 12, ground := Go.Ground.phase }], guard := none } : Go.Oper)) (v := .int .i64 (nb : Int)) rfl (by kernel_rfl) (by kernel_rfl) (by kernel_rfl) (fun _ _ _ h => h) (Or.inl ⟨by rfl, ?_⟩) (by assumption) ?_
        · intro wx hSw
          try dsimp only at hSw
          have u0 := hx0 wx hSw
          have u1 := hx1 wx hSw
          go_simp
          try with_reducible rfl
        try simp only [Act.put, List.setIfInBounds_toArray, List.set_cons_zero, List.set_cons_succ]
        refine wpAnyH_done (by kernel_rfl) ?_ _
        have bd : Below wr.heap.size wr wr.drew := (Below.refl _ _).drew
        have hHd := HH.out.later bd
        have HBd : Hid (Below w.heap.size w wr.drew) := bt HB.out bd
        have hRd : R ≤ wr.drew.heap.size := hRr
        clear bd HH HB hRr hx0 hx1 hca hcb
        generalize wr.drew = wd at *
        have hna2 : (na : Int) ≤ 100 := by omega
        have hnb2 : (nb : Int) ≤ 100 := by omega
        have hfA : (0 : Int) ≤ fi := hf0.1
        have hfB : fi ≤ 4294967295 := hf0.2
        have bq := bel1 wd (.cells #[.int .i64 ((fi + (na : Int)) % 4294967296), .int .i64 ((fi + (nb : Int)) % 4294967296)] 60)
        have hbx := At.box wd #[.int .i64 ((fi + (na : Int)) % 4294967296), .int .i64 ((fi + (nb : Int)) % 4294967296)] 60
        have hbk := Kd.box wd #[.int .i64 ((fi + (na : Int)) % 4294967296), .int .i64 ((fi + (nb : Int)) % 4294967296)] 60
        have hRR : RR (wd.alloc (.cells #[.int .i64 ((fi + (na : Int)) % 4294967296), .int .i64 ((fi + (nb : Int)) % 4294967296)] 60)) (.slice (some ⟨wd.heap.size, 0, none⟩) 1 1) [((fi + (na : Int)) % 4294967296, (fi + (nb : Int)) % 4294967296)] := by
          refine ⟨_, _, rfl, fun j r hj => ⟨_, _, rfl, hbk, ?_⟩⟩
          match j, hj with
          | 0, hj => cases hj; exact ⟨(hbx.2 0 _ rfl).1, (hbx.2 1 _ rfl).1⟩
          | j + 1, hj => simp at hj
        have hcA := hx_apart (hHd.later bq) hf0 (Nat.le_trans hRd bq.size) na nb hna1 hnb1 hRR
        have HBq : Hid (Below w.heap.size w (wd.alloc (.cells #[.int .i64 ((fi + (na : Int)) % 4294967296), .int .i64 ((fi + (nb : Int)) % 4294967296)] 60))) := bt HBd.out bq
        have hRq : R ≤ (wd.alloc (.cells #[.int .i64 ((fi + (na : Int)) % 4294967296), .int .i64 ((fi + (nb : Int)) % 4294967296)] 60)).heap.size := Nat.le_trans hRd bq.size
        clear hRR hbx hbk bq hHd HBd
        go_wp2_with fail
        refine hcA.mono ?_
        rintro e w9 ⟨nn, L9, vp9, rfl, hN9, hA9, hK9, ht9⟩
        have HB9 : Hid (Below w.heap.size w w9) := HBq.out.trans ((ht9.below hRq).mono hwR)
        have hR9 : R ≤ w9.heap.size := Nat.le_trans hRq ht9.size
        have HN9 : Hid (∀ G', (∀ k, k < 100 → (G' k = (G k || (decide (na ≤ k) && decide (k < nb))))) → ∀ w2, TY [58] R w9 w2 → At w2 gB (gArr G') → Kd w2 gB 58 → HX w2 R R gB fi G' L9 vb5 vp9) := hN9
        clear hcA ht9 HBq hRq hN9
        generalize wd.heap.size = zq
        go_wp2
        go_loopw [15] (fun s15 W => ∃ k : Nat, na ≤ k ∧ (k ≤ nb ∨ k = na) ∧ s15 = .int .i64 (k : Int) ∧ Hid (At W gB (gArr (fun t => G t || (decide (na ≤ t) && decide (t < k)))) ∧ Kd W gB 58 ∧ TY [58] R w9 W)) (fun s15 _ => nb - (RowKit.intOf s15).toNat)
        case atStart => exact ⟨na, Nat.le_refl _, Or.inr rfl, rfl, by rw [show gArr (fun t => G t || (decide (na ≤ t) && decide (t < na))) = gArr G from gArr_eq (fun k _ => by by_cases h : na ≤ k <;> simp [h] <;> omega)]; exact hA9, hK9, TY.refl _⟩
        case round =>
          clear hA9 hK9
          obtain ⟨k, hk1', hk2', rfl, HK⟩ := hrel
          obtain ⟨hAk, hKk, hTk⟩ := HK.out
          by_cases hkb : k < nb
          · have hkI : (k : Int) < (nb : Int) := by omega
            have hk100 : k < 100 := by omega
            have hk1I : (k : Int) < 100 := by omega
            have hk0I : (0 : Int) ≤ (k : Int) := by omega
            obtain ⟨ck, fk⟩ := hAk.2 k _ (gArr_at _ hk100)
            have HNK : Hid (At (wr.setCell ⟨gB, k, none⟩ (.bool true)) gB (gArr (fun t => G t || (decide (na ≤ t) && decide (t < k + 1)))) ∧ Kd (wr.setCell ⟨gB, k, none⟩ (.bool true)) gB 58 ∧ TY [58] R w9 (wr.setCell ⟨gB, k, none⟩ (.bool true))) := by
              refine ⟨?_, hKk.set _ _, hTk.trans (TY.set hKk (by decide) hRg _ _)⟩
              have := hAk.set k (.bool true)
              rw [gArr_set] at this
              rw [show gArr (fun t => G t || (decide (na ≤ t) && decide (t < k + 1))) = gArr (fun t => (G t || (decide (na ≤ t) && decide (t < k))) || t == k) from gArr_eq (fun t _ => by
                by_cases e : t = k
                · subst e; simp [hk1']
                · have : decide (t < k + 1) = decide (t < k) := by by_cases h : t < k <;> simp [h] <;> omega
                  simp [this, e])]
              exact this
            clear HK hAk hKk hTk
            go_wp2
            go_roundw
            case rel => exact ⟨k + 1, by omega, Or.inl (by omega), by first | rfl | simp, HNK⟩
            case measure => simp [RowKit.intOf]; omega
          · have hkI : ¬ (k : Int) < (nb : Int) := by omega
            have HHN : Hid (HX wr R R gB fi (fun t => G t || (decide (na ≤ t) && decide (t < k))) L9 vb5 vp9) := HN9.out _ (fun t _ => by
              have : (decide (na ≤ t) && decide (t < k)) = (decide (na ≤ t) && decide (t < nb)) := by
                by_cases h : na ≤ t
                · simp [h]; omega
                · simp [h]
              rw [this]) _ hTk hAk hKk
            have HBn : Hid (Below w.heap.size w wr) := HB9.out.trans ((hTk.below hR9).mono hwR)
            have hRn : R ≤ wr.heap.size := Nat.le_trans hR9 hTk.size
            clear HK hAk hKk hTk
            go_wp2
            go_roundw
            case rel => exact ⟨i + 1, _, _, _, by omega, by omega, by first | rfl | simp, HHN, HBn, hRn⟩
            case measure => simp [RowKit.intOf]; omega
        -- @/2
      · have HEX : Hid (¬ (i < n ∧ i < 30)) := hlt
        clear hlt
        go_upto_region 17 with fail
        go_cut [65] from 58 to 64 (fun s65 W => s65 = .bool false ∧ W = wr)
        case first =>
          as_aux_lemma =>
          by_cases hkn' : (i : Int) < (n : Int)
          · have hk30' : ¬ (i : Int) < 30 := by have := HEX.out; omega
            go_wp2
            go_meet
            case rel => exact ⟨rfl, rfl⟩
          · go_wp2
            go_meet
            case rel => exact ⟨rfl, rfl⟩
        case rest =>
        obtain ⟨rfl, hwc⟩ := hcut
        subst hwc
        obtain ⟨wC, hwC⟩ : ∃ x, x = wc := ⟨wc, rfl⟩
        subst hwC
        clear HEX hin hi30
        go_wp2
        go_loopw [100] (fun s100 W => ∃ (m : Nat) (G : Nat → Bool) (L : List Pt) (vp : Value), m ≤ 100 ∧ s100 = .int .i64 (m : Int) ∧ Hid (HX W R R gB fi G L vb5 vp ∧ ∀ k, k < m → inP L k) ∧ Hid (Below w.heap.size w W) ∧ R ≤ W.heap.size) (fun s100 _ => 101 - (RowKit.intOf s100).toNat)
        case atStart => exact ⟨0, G, L, vp, Nat.zero_le _, rfl, ⟨HH.out, fun k hk => absurd hk (Nat.not_lt_zero _)⟩, HB, hRr⟩
        case round =>
          clear HH HB hRr
          obtain ⟨m, G, L, vp, hm100, rfl, HM, HB, hRr⟩ := hrel
          obtain ⟨hH, hmk⟩ := HM.out
          have hfq := qh_fine hf0 hH.ok
          obtain ⟨fa1, fa2, fa3, fa4⟩ := hole_facts hfq
          obtain ⟨fb1, fb2⟩ := holeL_ok hfq
          have hcH := Hole_any hH.x hfq ms
          have hmI : (m : Int) < 101 := by omega
          obtain ⟨f, hfe⟩ : ∃ x, x = (holeL (QH fi L)).1 := ⟨_, rfl⟩
          obtain ⟨t, hte⟩ : ∃ x, x = (holeL (QH fi L)).2 := ⟨_, rfl⟩
          have hA0 : hlA (QH fi L) ms = if min ((t : Int) - (f : Int)) ms < 1 then fi else (fi + (f : Int)) % 4294967296 := by unfold hlA hlN; rw [← hfe, ← hte]
          have hS0 : hlS (QH fi L) ms = if min ((t : Int) - (f : Int)) ms < 1 then [] else (T100.drop f).take (min ((t : Int) - (f : Int)) ms).toNat := by unfold hlS hlN; rw [← hfe, ← hte]
          rw [hA0, hS0] at hcH
          rw [← hfe] at fa1 fa2 fa4 fb1
          rw [← hte] at fa2 fa3 fa4 fb1 fb2
          have fb2' : t ≤ 100 := fb2
          have fa3' : t < 100 → inP L t := fa3
          have fa4' : f = t → f = 100 := fa4
          clear hA0 hS0 hfe hte fb2 fa3 fa4
          by_cases hft : f = t
          · -- @3
            have hall : ∀ k, k < 100 → inP L k := fun k hk => fa1 k (by have := fa4' hft; omega)
            rw [if_pos (by omega), if_pos (by omega), show strB [] = (⟨#[]⟩ : ByteArray) from rfl] at hcH
            go_wp2_with fail
            refine hcH.mono ?_
            rintro e w9 ⟨rfl, hb9⟩
            have hcD := dist_any fi fi w9
            rw [distV, show numB fi = true from decide_eq_true hf0, Bool.true_and, if_pos rfl, show (fi - fi) % 4294967296 = 0 by omega, codeOf_true] at hcD
            have hH9 := hH.later hb9
            have HAL : Hid (∀ k, k < 100 → inP L k) := hall
            have hGe : gArr G = gArr (fun _ => true) := gArr_eq (fun k hk => (hH.eq k hk).2 (hall k hk))
            have hg9 : At w9 gB (gArr fun _ => true) := by rw [← hGe]; exact hH9.g
            clear hall hcH hmk fa1 fa2 fa3' fa4' hGe
            go_wp2_with fail
            refine hcD.mono ?_
            rintro e wA ⟨rfl, rfl⟩
            go_upto_region 32 with fail
            have hrg : wA.rangeAt gB 0 (gArr fun _ => true).toList := fun j u hu => by
              rw [Nat.zero_add]
              exact (hg9.2 j u (by simpa using hu)).1
            have HH9 : Hid (HX wA R R gB fi G L vb5 vp) := hH9
            have HBA : Hid (Below w.heap.size w wA) := bt HB.out hb9
            have hRA : R ≤ wA.heap.size := Nat.le_trans hRr hb9.size
            clear hg9 hH9 hH HM hfq hcD hb9
            go_wp2_with (first
              | (refine wpList_load_mid rfl 58 _ rfl gB 0 rfl (gArr fun _ => true).toList _ hrg Try.underlying58 rfl (by kernel_rfl) ?_)
              | go_in)
            trace_state
            go_loopw [119] (fun s119 W => ∃ i : Nat, i ≤ 100 ∧ s119 = .int .i64 (i : Int) ∧ W = wA) (fun s119 _ => 100 - (RowKit.intOf s119).toNat)
            case atStart => exact ⟨0, Nat.zero_le _, rfl, rfl⟩
            case round =>
              obtain ⟨j, hj, rfl, rfl⟩ := hrel
              by_cases hj1 : j < 100
              · have hjI : (j : Int) < 100 := by omega
                have hj0 : (0 : Int) ≤ (j : Int) := by omega
                have hjx := idxG (fun _ => true) j hj1 wr
                go_wp2
                go_roundw
                case rel => exact ⟨j + 1, by omega, by first | rfl | simp, by first | rfl | trivial⟩
                case measure => simp [RowKit.intOf]; omega
              · obtain rfl : j = 100 := by omega
                have hjI : ¬ ((100 : Nat) : Int) < 100 := by decide
                have hcN := apart_any (rs := []) HH9.out.x (qh_fine hf0 HH9.out.ok) hRA (v := .slice none 0 0) ⟨none, 0, rfl, fun i r hr => by cases hr⟩ (by simp)
                go_wp2_with fail
                refine hcN.mono ?_
                rintro e wN ⟨LN, vpN, rfl, hAN, -, htN⟩
                have hsum : sumP LN = 100 := all_one (N := 100) hAN.1 (by decide) (fun k hk => (hAN.2 k).2 (Or.inl (HAL.out k hk)))
                rw [hsum]
                go_wp2
                go_ret
                exact ⟨by first | rfl | simp, HBA.out.trans ((htN.below hRA).mono hwR)⟩
            -- @/3
          · have hlt2 : f < t := by omega
            have hmn : ¬ min ((t : Int) - (f : Int)) ms < 1 := by omega
            rw [if_neg hmn, if_neg hmn] at hcH
            obtain ⟨m1, hm1⟩ : ∃ x, x = (min ((t : Int) - (f : Int)) ms).toNat := ⟨_, rfl⟩
            have hm1a : 1 ≤ m1 := by omega
            have hm1b : f + m1 ≤ t := by omega
            have hm1c : (m1 : Int) ≤ ms := by omega
            have HM1D : Hid ((m1 : Int) < ms → f + m1 = t) := by show _ → _; omega
            rw [← hm1] at hcH
            clear hm1 hmn
            obtain ⟨sx, hsx⟩ : ∃ x, x = strB ((T100.drop f).take m1) := ⟨_, rfl⟩
            rw [← hsx] at hcH
            have hsxs : sx.size = m1 := by rw [hsx, strB_size, List.length_take, List.length_drop, T100_len]; omega
            have hsxk : ∀ k, k < m1 → sx[k]? = some (UInt8.ofNat (f + k)) := by
              intro k hk
              rw [hsx]
              show ((T100.drop f).take m1).toArray[k]? = _
              rw [List.getElem?_toArray, List.getElem?_take_of_lt hk, List.getElem?_drop]
              exact T100_at (by omega)
            have HSX : Hid (sx.size = m1) := hsxs
            have HSK : Hid (∀ k, k < m1 → sx[k]? = some (UInt8.ofNat (f + k))) := hsxk
            have hem : sx.toList.isEmpty = false := by rw [em_any]; exact decide_eq_false (by omega)
            have hmf : m ≤ f := by
              rcases Nat.lt_or_ge f m with h | h
              · exact absurd (hmk f h) (fa2 f (Nat.le_refl _) hlt2)
              · exact h
            clear hsx hsxs hsxk
            obtain ⟨at_, hat⟩ : ∃ x, x = (fi + (f : Int)) % 4294967296 := ⟨_, rfl⟩
            rw [← hat] at hcH
            have HAT : Hid (at_ = (fi + (f : Int)) % 4294967296) := hat
            have hcD : ∀ W, Calls Try.prog 22 #[.int .i64 fi, .int .i64 at_] W fun e w' => e = .returned (.tuple #[.int .i64 (f : Int), .int .i64 0]) ∧ w' = W := by
              intro W
              have h := dist_any fi at_ W
              rw [distV, show numB fi = true from decide_eq_true hf0, show numB at_ = true from decide_eq_true (by rw [hat]; omega)] at h
              rw [show (at_ - fi) % 4294967296 = (f : Int) by rw [hat]; omega] at h
              exact h
            clear hat
            go_wp2_with fail
            refine hcH.mono ?_
            rintro e w9 ⟨rfl, hb9⟩
            have HH9 : Hid (HX w9 R R gB fi G L vb5 vp) := hH.later hb9
            have HB9 : Hid (Below w.heap.size w w9) := bt HB.out hb9
            have hR9 : R ≤ w9.heap.size := Nat.le_trans hRr hb9.size
            have HFA : Hid ((∀ k, k < f → inP L k) ∧ (∀ k, f ≤ k → k < t → ¬ inP L k) ∧ (t < 100 → inP L t)) := ⟨fa1, fa2, fa3'⟩
            clear hcH hH HM hb9 HB hRr hmk fa1 fa2 fa3' fa4' hfq
            go_wp2_with fail
            refine (hcD _).mono ?_
            rintro e wA ⟨rfl, rfl⟩
            clear hcD
            have hfI : (f : Int) ≤ 100 := by omega
            go_wp2
            go_loopw [129] (fun s129 W => ∃ k : Nat, k ≤ f ∧ s129 = .int .i64 (k : Int) ∧ W = wA) (fun s129 _ => f - (RowKit.intOf s129).toNat)
            case atStart => exact ⟨0, Nat.zero_le _, rfl, rfl⟩
            case round =>
              obtain ⟨k, hk, rfl, rfl⟩ := hrel
              by_cases hkf : k < f
              · -- @4
                have hkI : (k : Int) < (f : Int) := by omega
                have hk100 : (k : Int) < 100 := by omega
                have hk0 : (0 : Int) ≤ (k : Int) := by omega
                have ck := (HH9.out.g.2 k _ (gArr_at _ (by omega))).1
                rw [(HH9.out.eq k (by omega)).2 (HFA.out.1 k hkf)] at ck
                go_wp2
                go_roundw
                case rel => exact ⟨k + 1, by omega, by first | rfl | simp, by first | rfl | trivial⟩
                case measure => simp [RowKit.intOf]; omega
                -- @/4
              obtain rfl : k = f := by omega
              have hkI : ¬ (k : Int) < (k : Int) := by omega
              have HA9 : Hid (At wr gB (gArr G) ∧ Kd wr gB 58) := ⟨HH9.out.g, HH9.out.kg⟩
              obtain ⟨w9, hw9⟩ : ∃ x, x = wr := ⟨_, rfl⟩
              have HW9 : Hid (w9 = wr) := hw9
              rw [← hw9] at HH9 HB9 hR9 HA9
              have hsI : (sx.size : Int) = (m1 : Int) := by have := HSX.out; omega
              have HSI : Hid ((sx.size : Int) = (m1 : Int)) := hsI
              clear hsI hw9 hkf
              go_wp2
              go_loopw [139] (fun s139 W => ∃ j : Nat, j ≤ m1 ∧ s139 = .int .i64 (j : Int) ∧ Hid (At W gB (gArr (fun t => G t || (decide (k ≤ t) && decide (t < k + j)))) ∧ Kd W gB 58 ∧ TY [58] R w9 W)) (fun s139 _ => m1 - (RowKit.intOf s139).toNat)
              case atStart => exact ⟨0, Nat.zero_le _, rfl, by rw [show gArr (fun t => G t || (decide (k ≤ t) && decide (t < k + 0))) = gArr G from gArr_eq (fun t _ => by by_cases h : k ≤ t <;> simp [h] <;> omega), ← HW9.out]; exact HA9.out.1, by rw [← HW9.out]; exact HA9.out.2, by rw [← HW9.out]; exact TY.refl _⟩
              case round =>
                obtain ⟨j, hj, rfl, HJ⟩ := hrel
                obtain ⟨hAj, hKj, hTj⟩ := HJ.out
                by_cases hjm : j < m1
                · -- @5
                  have hjI : (j : Int) < (sx.size : Int) := by have := HSI.out; omega
                  have hj2 : (j : Int) < (m1 : Int) := by omega
                  have hs100 : k + j < 100 := by omega
                  have hsI : (k : Int) + (j : Int) < 100 := by omega
                  have hs0 : (0 : Int) ≤ (k : Int) + (j : Int) := by omega
                  have hsn : ((k : Int) + (j : Int)).toNat = k + j := by omega
                  have hj0 : (0 : Int) ≤ (j : Int) := by omega
                  have hjs : j < sx.size := by have := HSX.out; omega
                  obtain ⟨cj, fj⟩ := hAj.2 (k + j) _ (gArr_at _ hs100)
                  have hGf : G (k + j) = false := by
                    cases hg : G (k + j) with
                    | false => rfl
                    | true => exact absurd ((HH9.out.eq _ hs100).1 hg) (HFA.out.2.1 _ (by omega) (by omega))
                  have hval : (G (k + j) || (decide (k ≤ k + j) && decide (k + j < k + j))) = false := by simp [hGf]
                  rw [hval] at cj
                  obtain ⟨bk, hbk⟩ : ∃ x, x = UInt8.ofNat (k + j) := ⟨_, rfl⟩
                  have hget : sx[j] = bk := by
                    have := HSK.out j hjm
                    rw [ByteArray.getElem?_lt' sx _ hjs] at this
                    rw [hbk]
                    exact Option.some.inj this
                  have hbn : bk.toNat = k + j := by rw [hbk]; simp; omega
                  have hu8 : IntKind.u8.wrap ((k : Int) + (j : Int)) = (k : Int) + (j : Int) := by rw [show IntKind.u8.wrap ((k : Int) + (j : Int)) = ((k : Int) + (j : Int)) % 256 from rfl]; omega
                  have hcmp : ((bk.toNat : Int) != (k : Int) + (j : Int)) = false := by rw [bne_eq_false_iff_eq, hbn]; omega
                  have HNJ : Hid (At (wr.setCell ⟨gB, k + j, none⟩ (.bool true)) gB (gArr (fun t => G t || (decide (k ≤ t) && decide (t < k + (j + 1))))) ∧ Kd (wr.setCell ⟨gB, k + j, none⟩ (.bool true)) gB 58 ∧ TY [58] R w9 (wr.setCell ⟨gB, k + j, none⟩ (.bool true))) := by
                    refine ⟨?_, hKj.set _ _, hTj.trans (TY.set hKj (by decide) hRg _ _)⟩
                    have := hAj.set (k + j) (.bool true)
                    rw [gArr_set] at this
                    rw [show gArr (fun t => G t || (decide (k ≤ t) && decide (t < k + (j + 1)))) = gArr (fun t => (G t || (decide (k ≤ t) && decide (t < k + j))) || t == k + j) from gArr_eq (fun t _ => by
                      by_cases e : t = k + j
                      · subst e; simp
                      · have : decide (t < k + (j + 1)) = decide (t < k + j) := by by_cases h : t < k + j <;> simp [h] <;> omega
                        simp [this, e])]
                    exact this
                  clear HJ hAj hKj hTj hbk hbn hval hGf
                  go_wp2
                  go_roundw
                  case rel => exact ⟨j + 1, by omega, by first | rfl | simp, HNJ⟩
                  case measure => simp [RowKit.intOf]; omega
                  -- @/5
                obtain rfl : j = m1 := by omega
                have hjI : ¬ (j : Int) < (sx.size : Int) := by have := HSI.out; omega
                have HXr : Hid (QX wr R R (QH fi L) vb5 vp) := HH9.out.x.keep hTj (by decide) (by decide) (by decide)
                have HBr : Hid (Below w.heap.size w wr) := HB9.out.trans ((hTj.below hR9).mono hwR)
                have hRr : R ≤ wr.heap.size := Nat.le_trans hR9 hTj.size
                have HOK : Hid (PsOk 100 L ∧ ∀ k, k < 100 → (G k = true ↔ inP L k)) := ⟨HH9.out.ok, HH9.out.eq⟩
                have HGA : Hid (At wr gB (gArr (fun t => G t || (decide (k ≤ t) && decide (t < k + j)))) ∧ Kd wr gB 58) := ⟨hAj, hKj⟩
                clear HJ hKj hTj HH9 HB9 hR9 HA9 HW9 hjm
                go_upto_region 53 with fail
                rw [HSI.out]
                have hkj : (k : Int) + (j : Int) ≤ 100 := by omega
                go_cut [179] from 166 to 178 (fun s179 W => s179 = .bool false ∧ W = wr)
                case first =>
                  as_aux_lemma =>
                  -- @6
                  by_cases hq1 : (j : Int) < ms
                  · have hq1' : (sx.size : Int) < ms := by rw [HSI.out]; exact hq1
                    by_cases hq2 : k + j < 100
                    · have hq2' : (k : Int) + (j : Int) < 100 := by omega
                      have hq0 : (0 : Int) ≤ (k : Int) + (j : Int) := by omega
                      have hsn : ((k : Int) + (j : Int)).toNat = k + j := by omega
                      have cj := (hAj.2 (k + j) _ (gArr_at _ hq2)).1
                      have het := HM1D.out hq1
                      have hval : (G (k + j) || (decide (k ≤ k + j) && decide (k + j < k + j))) = true := by
                        rw [(HOK.out.2 (k + j) hq2).2 (by rw [het]; exact HFA.out.2.2 (by omega))]
                        rfl
                      rw [hval] at cj
                      clear hval het
                      go_wp2
                      go_meet
                      case rel => exact ⟨rfl, rfl⟩
                    · have hq2' : ¬ (k : Int) + (j : Int) < 100 := by omega
                      go_wp2
                      go_meet
                      case rel => exact ⟨rfl, rfl⟩
                  · have hq1' : ¬ (sx.size : Int) < ms := by rw [HSI.out]; exact hq1
                    go_wp2
                    go_meet
                    case rel => exact ⟨rfl, rfl⟩
                  -- @/6
                case rest =>
                obtain ⟨rfl, hwd⟩ := hcut
                subst hwd
                obtain ⟨wd, hwd⟩ : ∃ x, x = wc := ⟨wc, rfl⟩
                subst hwd
                have hfA : (0 : Int) ≤ fi := hf0.1
                have hfB : fi ≤ 4294967295 := hf0.2
                have bq := bel1 wd (.cells #[.int .i64 at_, .int .i64 ((fi + ((k : Int) + (j : Int))) % 4294967296)] 60)
                have hbx := At.box wd #[.int .i64 at_, .int .i64 ((fi + ((k : Int) + (j : Int))) % 4294967296)] 60
                have hbk := Kd.box wd #[.int .i64 at_, .int .i64 ((fi + ((k : Int) + (j : Int))) % 4294967296)] 60
                have hRR : RR (wd.alloc (.cells #[.int .i64 at_, .int .i64 ((fi + ((k : Int) + (j : Int))) % 4294967296)] 60)) (.slice (some ⟨wd.heap.size, 0, none⟩) 1 1) [((fi + (k : Int)) % 4294967296, (fi + ((k + j : Nat) : Int)) % 4294967296)] := by
                  refine ⟨_, _, rfl, fun i r hi => ⟨_, _, rfl, hbk, ?_⟩⟩
                  match i, hi with
                  | 0, hi =>
                    cases hi
                    refine ⟨?_, ?_⟩
                    · rw [← HAT.out]; exact (hbx.2 0 _ rfl).1
                    · dsimp only
                      rw [show (fi + ((k + j : Nat) : Int)) % 4294967296 = (fi + ((k : Int) + (j : Int))) % 4294967296 by rw [Int.natCast_add]]; exact (hbx.2 1 _ rfl).1
                  | i + 1, hi => simp at hi
                have hcA := hx_apart2 (HXr.out.later bq) HOK.out.1 HOK.out.2 hf0 (Nat.le_trans hRr bq.size) k (k + j) (by omega) (by omega) hRR (HGA.out.1.later bq) (HGA.out.2.later bq) hRg (fun t _ => rfl)
                have HBq : Hid (Below w.heap.size w (wd.alloc (.cells #[.int .i64 at_, .int .i64 ((fi + ((k : Int) + (j : Int))) % 4294967296)] 60))) := bt HBr.out bq
                have hRq : R ≤ (wd.alloc (.cells #[.int .i64 at_, .int .i64 ((fi + ((k : Int) + (j : Int))) % 4294967296)] 60)).heap.size := Nat.le_trans hRr bq.size
                clear hRR hbx hbk bq HXr HBr hRr hAj HGA
                go_wp2_with fail
                refine hcA.mono ?_
                rintro e wE ⟨nn, LE, vpE, rfl, hHE, hinE, htE⟩
                have HHE : Hid (HX wE R R gB fi (fun t => G t || (decide (k ≤ t) && decide (t < k + j))) LE vb5 vpE ∧ ∀ i, i < m + 1 → inP LE i) := ⟨hHE, fun i hi => (hinE i).2 (by
                  rcases Nat.lt_or_ge i k with h | h
                  · exact Or.inl (HFA.out.1 i h)
                  · exact Or.inr ⟨h, by omega⟩)⟩
                have HBE : Hid (Below w.heap.size w wE) := HBq.out.trans ((htE.below hRq).mono hwR)
                have hRE : R ≤ wE.heap.size := Nat.le_trans hRq htE.size
                clear hcA hHE hinE htE HBq hRq
                go_wp2
                go_roundw
                case rel => exact ⟨m + 1, _, _, _, by omega, by first | rfl | simp, HHE, HBE, hRE⟩
                case measure => simp [RowKit.intOf]; omega
end Go.Proofs.Ytlbdecjppgjdiaa
