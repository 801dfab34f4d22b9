/- RecvqEdge: the walk. -/
import Derived.Test.YtiglaalppaljbaaVl
import Derived.Test.YtiglaalppaljbaaFlat
namespace Go.Proofs.Ytiglaalppaljbaa
open Go.RowKit Go.Maps Go.Lib
set_option maxRecDepth 100000
set_option linter.unusedVariables false
set_option linter.unusedSimpArgs false


theorem put_ok {w : World} {A : Bk} {q : Nat} {Q : Rq} (hX : QX w A q Q) (hf : Q.Fine) (at_ : Int) (s : ByteArray) (hs : s.size ≤ 65536) (a0 : 0 ≤ at_) (a1 : at_ ≤ 4294967295) :
    Calls Try.prog 13 #[PQ q, .int .i64 at_, .string s] w fun e w' => ∃ L A', e = .returned (.tuple #[.int .i64 (L.length : Int), .int .i64 0]) ∧ Run (putA Q at_ s.data.toList) L ∧ QX w' A' q (goQ Q (putA Q at_ s.data.toList) L) ∧ (goQ Q (putA Q at_ s.data.toList) L).Fine ∧ Turn A w w' ∧ Gr w.heap.size A A' := by
  have hsz : s.data.toList.length = s.size := Array.length_toList
  obtain ⟨L, hL, -⟩ := Run.ex _ _ (putA_win hf a0 a1 (s := s.data.toList) (by omega))
  refine (put_t hX hf at_ s hs a0 a1 L hL).mono ?_
  rintro e w' ⟨rfl, A', hX', ht, hg⟩
  exact ⟨L, A', rfl, hL, hX', put_fine hf a0 a1 (by omega) hL, ht, hg⟩
theorem adds {a n : Int} (ha : 0 ≤ a ∧ a ≤ 4294967295) (hn : -65536 ≤ n ∧ n ≤ 65536) (w : World) : Calls Try.prog 23 #[.int .i64 a, .int .i64 n] w fun e w' => e = .returned (.tuple #[.int .i64 ((a + n) % 4294967296), .int .i64 0]) ∧ w' = w := by
  have h := add_any a n w
  rw [addV, show numB a = true from decide_eq_true ha, show stepB n = true from decide_eq_true (by omega)] at h
  exact h
theorem mod_rng (a : Int) : 0 ≤ a % 4294967296 ∧ a % 4294967296 ≤ 4294967295 := by omega
/-- A queue of room 100 whose blocks lie from base on. -/
structure HQ (w : World) (base q : Nat) (Q : Rq) : Prop where
  x : ∃ A, QX w A q Q ∧ ∀ k, A k → base ≤ k
  f : Q.Fine
theorem HQ.later {w w' : World} {base q : Nat} {Q : Rq} (h : HQ w base q Q) (hb : Below w.heap.size w w') : HQ w' base q Q := by
  obtain ⟨⟨A, hX, hA⟩, hf⟩ := h
  exact ⟨⟨A, hX.later hb, hA⟩, hf⟩
theorem hq_put {w : World} {base q : Nat} {Q : Rq} (h : HQ w base q Q) (hbase : base ≤ w.heap.size) (at_ : Int) (s : ByteArray) (hs : s.size ≤ 65536) (a0 : 0 ≤ at_) (a1 : at_ ≤ 4294967295) :
    Calls Try.prog 13 #[PQ q, .int .i64 at_, .string s] w fun e w' => ∃ L, e = .returned (.tuple #[.int .i64 (L.length : Int), .int .i64 0]) ∧ Run (putA Q at_ s.data.toList) L ∧ HQ w' base q (goQ Q (putA Q at_ s.data.toList) L) ∧ Below base w w' := by
  obtain ⟨⟨A, hX, hA⟩, hf⟩ := h
  refine (put_ok hX hf at_ s hs a0 a1).mono ?_
  rintro e w' ⟨L, A', rfl, hL, hX', hf', ht, hg⟩
  exact ⟨L, rfl, hL, ⟨⟨A', hX', fun k hk => by rcases hg k hk with h | h; exact hA k h; omega⟩, hf'⟩, below_of_turn ht hbase hA⟩
theorem hq_read {w : World} {base q : Nat} {Q : Rq} (h : HQ w base q Q) (hbase : base ≤ w.heap.size) (most : Int) :
    Calls Try.prog 24 #[PQ q, .int .i64 most] w fun e w' => e = .returned (.string (strB (Q.bs.take (readN Q most)))) ∧ HQ w' base q (readQ Q (readN Q most)) ∧ Below base w w' := by
  obtain ⟨⟨A, hX, hA⟩, hf⟩ := h
  refine (read_any hX hf most).mono ?_
  rintro e w' ⟨rfl, hX', ht⟩
  exact ⟨rfl, ⟨⟨A, hX', hA⟩, readQ_fine hf _⟩, below_of_turn ht hbase hA⟩
theorem hq_next {w : World} {base q : Nat} {Q : Rq} (h : HQ w base q Q) : Calls Try.prog 15 #[PQ q] w fun e w' => e = .returned (.int .i64 Q.next) ∧ w' = w := by
  obtain ⟨⟨A, hX, hA⟩, hf⟩ := h
  exact next_any hX
theorem hq_window {w : World} {base q : Nat} {Q : Rq} (h : HQ w base q Q) : Calls Try.prog 16 #[PQ q] w fun e w' => e = .returned (.int .i64 ((Q.room - Q.bs.length : Nat) : Int)) ∧ Below w.heap.size w w' := by
  obtain ⟨⟨A, hX, hA⟩, hf⟩ := h
  exact window_any hX hf
theorem hq_ready {w : World} {base q : Nat} {Q : Rq} (h : HQ w base q Q) : Calls Try.prog 18 #[PQ q] w fun e w' => e = .returned (.int .i64 (Q.bs.length : Int)) ∧ w' = w := by
  obtain ⟨⟨A, hX, hA⟩, hf⟩ := h
  exact ready_any hX
theorem hq_new (first : Int) (room : Nat) (w : World) (h0 : 0 ≤ first) (h1 : first ≤ 4294967295) (r0 : 1 ≤ room) (r1 : room ≤ 65536) :
    Calls Try.prog 8 #[.int .i64 first, .int .i64 (room : Int)] w fun e w' => e = .returned (.tuple #[PQ (w.heap.size + 1), .int .i64 0]) ∧ HQ w' w.heap.size (w.heap.size + 1) (emptyQ room first) ∧ Below w.heap.size w w' := by
  refine (new_t first room w h0 h1 r0 r1).mono ?_
  rintro e w' ⟨rfl, hX, hb⟩
  exact ⟨rfl, ⟨⟨_, hX, fun k hk => hk.1⟩, emptyQ_fine h0 h1 r0 r1⟩, hb⟩
theorem made_bytes (n : Nat) : (madeCells (Value.int .u8 0).cells (n * 1)).toList = (List.replicate n (0 : UInt8)).map byV := by
  rw [Nat.mul_one, List.map_replicate]
  refine List.ext_getElem? fun i => ?_
  unfold madeCells
  rw [Array.toList_map, List.getElem?_map, Array.toList_range, List.getElem?_replicate]
  by_cases h : i < n
  · rw [List.getElem?_range h, if_pos h]
    show some ((Value.int .u8 0).cells[i % 1]!) = _
    rw [Nat.mod_one]
    rfl
  · rw [List.getElem?_eq_none (by rw [List.length_range]; omega), if_neg h]
    rfl
/-- make([]byte, n). -/
theorem mk_bytes (w : World) (n : Nat) (hn : n ≤ 100000) : ∃ w', (Instr.makeSlice 39 (.int .i64 (n : Int)) (.int .i64 (n : Int))).run Try.prog w = .ok (.slice (some ⟨w.heap.size, 0, none⟩) n n) w' ∧ BO w' w.heap.size (.slice (some ⟨w.heap.size, 0, none⟩) n n) (List.replicate n 0) ∧ Below w.heap.size w w' := by
  obtain ⟨i0, hi, hz0, hz1, hz2⟩ := info_parts info5
  obtain ⟨w', h1, h2, h3⟩ := run_makeSlice_full (P := Try.prog) w w.heap.size 39 5 i0 (.int .u8 0) 1 Try.underlying39 hi hz0 hz1 .i64 .i64 n (by omega) (by rw [hz2]; omega) (by unfold maxLen; omega) (Nat.le_refl _)
  refine ⟨w', h1, ?_, ⟨h3.os, h3.tape, h3.output, h3.size, fun k hk => h3.block k hk (by simp)⟩⟩
  rw [made_bytes] at h2
  unfold BO
  rw [List.length_replicate]
  exact h2
theorem conv_bytes {w : World} {base g c : Nat} {bs : List UInt8} (h : BO w base (.slice (some ⟨g, 0, none⟩) bs.length c) bs) : (convert 39 9 (.slice (some ⟨g, 0, none⟩) bs.length c)).run Try.prog w = .ok (.string (strB bs)) w := by
  refine run_convert_bytes_back (P := Try.prog) w 39 9 5 ⟨g, 0, none⟩ c bs Try.underlying39 Try.underlying5 Try.underlying9 (fun k hk => ?_)
  rw [Addr.add_mid, Nat.zero_add]
  exact h.cell (List.getElem?_eq_getElem hk)
def edgeE (Q : Rq) : Int := (Q.next + ((Q.room - Q.bs.length : Nat) : Int)) % 4294967296
theorem edge_put {Q : Rq} {ap : Nat → Option UInt8} {L : List UInt8} (hf : Q.Fine) (hf2 : (goQ Q ap L).Fine) : edgeE (goQ Q ap L) = edgeE Q := by
  have h1 := hf.ln
  have h2 : (Q.bs ++ L).length ≤ Q.room := hf2.ln
  rw [List.length_append] at h2
  unfold edgeE goQ
  simp only [List.length_append]
  omega
theorem edge_read {Q : Rq} {n : Nat} (hf : Q.Fine) (hn : n ≤ Q.bs.length) : edgeE (readQ Q n) = (edgeE Q + (n : Int)) % 4294967296 := by
  have h1 := hf.ln
  unfold edgeE readQ
  simp only [List.length_drop]
  omega
set_option maxHeartbeats 4000000 in
theorem edge_any (first : Int) (a : Option Addr) (n cap : Nat) (w : World) (hr : Flat.Rows w a n 3 [.i, .i, .i]) (hz : n < 1000000000000000) :
    Calls Try.prog 6 #[.int .i64 first, .slice a n cap] w fun e w' => e = .returned (.bool true) ∧ Below w.heap.size w w' := by
  have HA : Hid (Flat.Rows w a n 3 [.i, .i, .i]) := hr
  clear hr
  go_enter Try.func6, Try.ntmps6
  go_wp2_with fail
  refine (works_any w).mono ?_
  rintro e w1 ⟨rfl, hb1⟩
  go_wp2_with fail
  refine (among_any first 4294967296 w1 (by decide) (by decide)).mono ?_
  rintro e w2 ⟨rfl, rfl⟩
  obtain ⟨fi, hfi⟩ : ∃ x, x = first % 4294967296 := ⟨_, rfl⟩
  have hf0 : 0 ≤ fi ∧ fi ≤ 4294967295 := by rw [hfi]; exact mod_rng _
  rw [← hfi]
  clear hfi
  have hnew := hq_new fi 100 w2 hf0.1 hf0.2 (by omega) (by omega)
  rw [show ((100 : Nat) : Int) = 100 from rfl] at hnew
  go_wp2_with fail
  refine hnew.mono ?_
  rintro e w3 ⟨rfl, hX3, hb3⟩
  clear hnew
  have hbw := bt hb1 hb3
  have hwR : w.heap.size ≤ w2.heap.size := hb1.size
  have hR3 : w2.heap.size ≤ w3.heap.size := hb3.size
  generalize hq : w2.heap.size + 1 = q at *
  generalize hz2 : w2.heap.size = R at *
  clear hq hz2 hb3 hb1
  go_wp2_with fail
  refine (adds hf0 (by decide) w3).mono ?_
  rintro e w4 ⟨rfl, rfl⟩
  have HS : Hid (HQ w4 R q (emptyQ 100 fi) ∧ (fi + 100) % 4294967296 = edgeE (emptyQ 100 fi)) := ⟨hX3, rfl⟩
  clear hX3
  obtain ⟨ed, hed⟩ : ∃ x, x = (fi + 100) % 4294967296 := ⟨_, rfl⟩
  rw [← hed] at HS ⊢
  clear hed
  go_wp2_with fail
  try go_frame
  go_loopw [7, 9] (fun s7 s9 wr => ∃ (k : Nat) (Q : Rq) (ed : Int), s9 = .int .i64 (k : Int) ∧ k ≤ n ∧ s7 = .int .i64 ed ∧ Hid (HQ wr R q Q ∧ ed = edgeE Q) ∧ Below w.heap.size w wr ∧ R ≤ wr.heap.size) (fun _ s9 _ => n - (RowKit.intOf s9).toNat)
  case atStart => exact ⟨0, _, ed, rfl, Nat.zero_le _, rfl, HS, hbw, hR3⟩
  case round =>
    clear HS hR3 hbw hf0
    obtain ⟨k, Q, ed, rfl, hkn, rfl, HS, hb, hRr⟩ := hrel
    by_cases hlt : k < n ∧ k < 40
    rotate_left
    · by_cases hkn' : (k : Int) < (n : Int)
      · have hk40' : ¬ (k : Int) < 40 := by omega
        go_wp2
        go_ret
        exact ⟨rfl, hb⟩
      · go_wp2
        go_ret
        exact ⟨rfl, hb⟩
    obtain ⟨ab, off, rfl, hrow⟩ : ∃ b off, a = some ⟨b, off, none⟩ ∧ ∀ k, k < n → ∃ cs : List Value, Flat.Ok [.i, .i, .i] cs ∧ ∀ j v, cs[j]? = some v → w.cell? ⟨b, off + k * 3 + j, none⟩ = some v := by
      rcases HA.out with h | h
      · omega
      · exact h
    obtain ⟨cs, ⟨hcl, hck⟩, hcc⟩ := hrow k hlt.1
    clear hrow
    match cs, hcl with
    | [v0, v1, v2], _ =>
    obtain ⟨xa, rfl, wxa⟩ := hck 0 _ _ rfl rfl
    obtain ⟨xl, rfl, wxl⟩ := hck 1 _ _ rfl rfl
    obtain ⟨xr, rfl, wxr⟩ := hck 2 _ _ rfl rfl
    have x0 : ∀ W, Below w.heap.size w W → W.cell? ⟨ab, off + k * 3, none⟩ = some (.int .i64 xa) := fun W hW => later hW (hcc 0 _ rfl)
    have x1 : ∀ W, Below w.heap.size w W → W.cell? ⟨ab, off + k * 3 + 1, none⟩ = some (.int .i64 xl) := fun W hW => later hW (hcc 1 _ rfl)
    have x2 : ∀ W, Below w.heap.size w W → W.cell? ⟨ab, off + k * 3 + 2, none⟩ = some (.int .i64 xr) := fun W hW => later hW (hcc 2 _ rfl)
    clear hcc hck
    have hk1 : (k : Int) < (n : Int) := by omega
    have hk2 : (k : Int) < 40 := by omega
    have hk3 : (0 : Int) ≤ (k : Int) := by omega
    have hfn : 0 ≤ Q.next ∧ Q.next ≤ 4294967295 := ⟨HS.out.1.f.n0, HS.out.1.f.n1⟩
    have hnext : ∀ W, Below wr.heap.size wr W → Calls Try.prog 15 #[PQ q] W fun e w' => e = .returned (.int .i64 Q.next) ∧ w' = W := fun W hW => hq_next (HS.out.1.later hW)
    have ham := fun W => among_any xa 120 W (by decide) (by decide)
    have hx0 : ∀ W, Below wr.heap.size wr W → W.cell? ⟨ab, off + k * 3, none⟩ = some (.int .i64 xa) := fun W hW => x0 W (bt hb hW)
    obtain ⟨ma, hma⟩ : ∃ x, x = xa % 120 := ⟨_, rfl⟩
    rw [← hma] at ham
    have hm0 : 0 ≤ ma ∧ ma < 120 := by omega
    have hadd := fun W => adds (n := ma - 10) hfn (by omega) W
    have hwm : IntKind.i64.wrap (ma - 10) = ma - 10 := by rw [IntKind.wrap_i64] <;> omega
    obtain ⟨at_, hat⟩ : ∃ x, x = (Q.next + (ma - 10)) % 4294967296 := ⟨_, rfl⟩
    rw [← hat] at hadd
    have ha0 : 0 ≤ at_ := by omega
    have ha1 : at_ ≤ 4294967295 := by omega
    clear hat hma
    go_upto_region 11 with fail
    refine wp_region_held_drew (S := (fun W => Below wr.heap.size wr W)) (by kernel_rfl) ?_ (fun hHeld => ?_)
    · first | exact (Below.refl _ _).drew | assumption
    refine wpAnyH_take (i := 0) (oi := ({ dst := some 48, op := Go.Op.move (Go.Operand.tmp 5), type := 24, pos := "more.go:24", after := #[], guard := none } : Go.Oper)) (v := .pointer (some ⟨q, 0, none⟩)) rfl (by kernel_rfl) (by kernel_rfl) (by kernel_rfl) (fun _ _ _ h => h) (Or.inl ⟨by rfl, ?_⟩) (by assumption) ?_
    · intro wx hSw
      try dsimp only at hSw
      have u1 := hx0 wx hSw
      go_simp
      try with_reducible rfl
    try simp only [Act.put, List.setIfInBounds_toArray, List.set_cons_zero, List.set_cons_succ]
    refine wpAnyH_take (i := 2) (oi := ({ dst := some 50, op := Go.Op.move (Go.Operand.tmp 1), type := 47, pos := "more.go:24", after := #[], guard := none } : Go.Oper)) (v := .slice (some ⟨ab, off, none⟩) n cap) rfl (by kernel_rfl) (by kernel_rfl) (by kernel_rfl) (fun _ _ _ h => h) (Or.inl ⟨by rfl, ?_⟩) (by assumption) ?_
    · intro wx hSw
      try dsimp only at hSw
      have u1 := hx0 wx hSw
      go_simp
      try with_reducible rfl
    try simp only [Act.put, List.setIfInBounds_toArray, List.set_cons_zero, List.set_cons_succ]
    refine wpAnyH_take (i := 3) (oi := ({ dst := some 51, op := Go.Op.move (Go.Operand.tmp 9), type := 3, pos := "more.go:24", after := #[], guard := none } : Go.Oper)) (v := .int .i64 (k : Int)) rfl (by kernel_rfl) (by kernel_rfl) (by kernel_rfl) (fun _ _ _ h => h) (Or.inl ⟨by rfl, ?_⟩) (by assumption) ?_
    · intro wx hSw
      try dsimp only at hSw
      have u1 := hx0 wx hSw
      go_simp
      try with_reducible rfl
    try simp only [Act.put, List.setIfInBounds_toArray, List.set_cons_zero, List.set_cons_succ]
    refine wpAnyH_take (i := 4) (oi := ({ dst := some 52, op := Go.Op.indexAddr 47 (Go.Operand.tmp 50) (Go.Operand.tmp 51), type := 0, pos := "more.go:24", after := #[{ on := 2, ground := Go.Ground.data }, { on := 3, ground := Go.Ground.data }], guard := none } : Go.Oper)) (v := .pointer (some ⟨ab, off + k * 3, none⟩)) rfl (by kernel_rfl) (by kernel_rfl) (by kernel_rfl) (fun _ _ _ h => h) (Or.inl ⟨by rfl, ?_⟩) (by assumption) ?_
    · intro wx hSw
      try dsimp only at hSw
      have u1 := hx0 wx hSw
      go_simp
      try with_reducible rfl
    try simp only [Act.put, List.setIfInBounds_toArray, List.set_cons_zero, List.set_cons_succ]
    refine wpAnyH_take (i := 5) (oi := ({ dst := some 53, op := Go.Op.fieldAddr 51 (Go.Operand.tmp 52) 0, type := 0, pos := "more.go:24", after := #[{ on := 4, ground := Go.Ground.data }], guard := none } : Go.Oper)) (v := .pointer (some ⟨ab, off + k * 3, none⟩)) rfl (by kernel_rfl) (by kernel_rfl) (by kernel_rfl) (fun _ _ _ h => h) (Or.inl ⟨by rfl, ?_⟩) (by assumption) ?_
    · intro wx hSw
      try dsimp only at hSw
      have u1 := hx0 wx hSw
      go_simp
      try with_reducible rfl
    try simp only [Act.put, List.setIfInBounds_toArray, List.set_cons_zero, List.set_cons_succ]
    refine wpAnyH_take (i := 6) (oi := ({ dst := some 54, op := Go.Op.load 3 (Go.Operand.tmp 53), type := 3, pos := "more.go:24", after := #[{ on := 5, ground := Go.Ground.data }], guard := none } : Go.Oper)) (v := .int .i64 xa) rfl (by kernel_rfl) (by kernel_rfl) (by kernel_rfl) (fun _ _ _ h => h) (Or.inl ⟨by rfl, ?_⟩) (by assumption) ?_
    · intro wx hSw
      try dsimp only at hSw
      have u1 := hx0 wx hSw
      go_simp
      try with_reducible rfl
    try simp only [Act.put, List.setIfInBounds_toArray, List.set_cons_zero, List.set_cons_succ]
    refine wpAnyH_ready (rs := [1]) (by kernel_rfl) (by simp) ?_
    refine AllReadyH.cons (o := ({ dst := some 49, op := Go.Op.call { callee := Go.Callee.value (Go.Operand.func 15), args := #[Go.Operand.tmp 48], argTypes := #[24] }, type := 3, pos := "more.go:24", after := #[{ on := 0, ground := Go.Ground.data }], guard := none } : Go.Oper)) rfl (fun K hK => ?_) AllReadyH.nil
    go_simp
    refine (hnext _ hHeld).mono ?_
    rintro e wk ⟨rfl, rfl⟩
    refine hK.out _ _ hHeld (fun hHeld => ?_)
    clear hK K
    try simp only [Act.put, List.setIfInBounds_toArray, List.set_cons_zero, List.set_cons_succ]
    refine wpAnyH_ready (rs := [7]) (by kernel_rfl) (by simp) ?_
    refine AllReadyH.cons (o := ({ dst := some 55, op := Go.Op.call { callee := Go.Callee.value (Go.Operand.func 21), args := #[Go.Operand.tmp 54, Go.Operand.const (Go.Value.int Go.IntKind.i64 120)], argTypes := #[3, 3] }, type := 3, pos := "more.go:24", after := #[{ on := 6, ground := Go.Ground.data }, { on := 1, ground := Go.Ground.chain }], guard := none } : Go.Oper)) rfl (fun K hK => ?_) AllReadyH.nil
    go_simp
    refine (ham _).mono ?_
    rintro e wk ⟨rfl, rfl⟩
    refine hK.out _ _ hHeld (fun hHeld => ?_)
    clear hK K
    try simp only [Act.put, List.setIfInBounds_toArray, List.set_cons_zero, List.set_cons_succ]
    refine wpAnyH_take (i := 8) (oi := ({ dst := some 56, op := Go.Op.binOp Go.BinOp.sub 3 (Go.Operand.tmp 55) (Go.Operand.const (Go.Value.int Go.IntKind.i64 10)) 3, type := 3, pos := "more.go:24", after := #[{ on := 7, ground := Go.Ground.data }], guard := none } : Go.Oper)) (v := .int .i64 (ma - 10)) rfl (by kernel_rfl) (by kernel_rfl) (by kernel_rfl) (fun _ _ _ h => h) (Or.inl ⟨by rfl, ?_⟩) (by assumption) ?_
    · intro wx hSw
      try dsimp only at hSw
      have u1 := hx0 wx hSw
      go_simp
      try with_reducible rfl
    try simp only [Act.put, List.setIfInBounds_toArray, List.set_cons_zero, List.set_cons_succ]
    refine wpAnyH_ready (rs := [9]) (by kernel_rfl) (by simp) ?_
    refine AllReadyH.cons (o := ({ dst := some 57, op := Go.Op.call { callee := Go.Callee.value (Go.Operand.func 23), args := #[Go.Operand.tmp 49, Go.Operand.tmp 56], argTypes := #[3, 3] }, type := 36, pos := "more.go:24", after := #[{ on := 1, ground := Go.Ground.data }, { on := 8, ground := Go.Ground.data }, { on := 7, ground := Go.Ground.chain }], guard := none } : Go.Oper)) rfl (fun K hK => ?_) AllReadyH.nil
    go_simp
    refine (hadd _).mono ?_
    rintro e wk ⟨rfl, rfl⟩
    refine hK.out _ _ hHeld (fun hHeld => ?_)
    clear hK K
    try simp only [Act.put, List.setIfInBounds_toArray, List.set_cons_zero, List.set_cons_succ]
    refine wpAnyH_take (i := 10) (oi := ({ dst := some 47, op := Go.Op.move (Go.Operand.tmp 57), type := 36, pos := "more.go:24", after := #[{ on := 9, ground := Go.Ground.data }], guard := none } : Go.Oper)) (v := .tuple #[.int .i64 at_, .int .i64 0]) rfl (by kernel_rfl) (by kernel_rfl) (by kernel_rfl) (fun _ _ _ h => h) (Or.inl ⟨by rfl, ?_⟩) (by assumption) ?_
    · intro wx hSw
      try dsimp only at hSw
      have u1 := hx0 wx hSw
      go_simp
      try with_reducible rfl
    try simp only [Act.put, List.setIfInBounds_toArray, List.set_cons_zero, List.set_cons_succ]
    refine wpAnyH_take (i := 11) (oi := ({ dst := some 58, op := Go.Op.extract (Go.Operand.tmp 47) 0, type := 3, pos := "more.go:24", after := #[{ on := 10, ground := Go.Ground.data }], guard := none } : Go.Oper)) (v := .int .i64 at_) rfl (by kernel_rfl) (by kernel_rfl) (by kernel_rfl) (fun _ _ _ h => h) (Or.inl ⟨by rfl, ?_⟩) (by assumption) ?_
    · intro wx hSw
      try dsimp only at hSw
      have u1 := hx0 wx hSw
      go_simp
      try with_reducible rfl
    try simp only [Act.put, List.setIfInBounds_toArray, List.set_cons_zero, List.set_cons_succ]
    refine wpAnyH_take (i := 12) (oi := ({ dst := some 59, op := Go.Op.extract (Go.Operand.tmp 47) 1, type := 25, pos := "more.go:24", after := #[{ on := 10, ground := Go.Ground.data }, { on := 13, ground := Go.Ground.gcOnly Go.Departure.lateStores }], guard := none } : Go.Oper)) (v := .int .i64 0) rfl (by kernel_rfl) (by kernel_rfl) (by kernel_rfl) (fun _ _ _ h => h) (Or.inl ⟨by rfl, ?_⟩) (by assumption) ?_
    · intro wx hSw
      try dsimp only at hSw
      have u1 := hx0 wx hSw
      go_simp
      try with_reducible rfl
    try simp only [Act.put, List.setIfInBounds_toArray, List.set_cons_zero, List.set_cons_succ]
    refine wpAnyH_take (i := 13) (oi := ({ dst := some 10, op := Go.Op.assign (Go.Operand.tmp 58), type := 3, pos := "more.go:24", after := #[{ on := 11, ground := Go.Ground.data }, { on := 9, ground := Go.Ground.chain }, { on := 0, ground := Go.Ground.phase }, { on := 1, ground := Go.Ground.phase }, { on := 2, ground := Go.Ground.phase }, { on := 3, ground := Go.Ground.phase }, { on := 4, ground := Go.Ground.phase }, { on := 5, ground := Go.Ground.phase }, { on := 6, ground := Go.Ground.phase }, { on := 7, ground := Go.Ground.phase }, { on := 8, ground := Go.Ground.phase }, { on := 9, ground := Go.Ground.phase }, { on := 10, ground := Go.Ground.phase }, { on := 11, ground := Go.Ground.phase }, { on := 12, ground := Go.Ground.textOnly Go.Departure.lateStores }], guard := none } : Go.Oper)) (v := .int .i64 at_) rfl (by kernel_rfl) (by kernel_rfl) (by kernel_rfl) (fun _ _ _ h => h) (Or.inl ⟨by rfl, ?_⟩) (by assumption) ?_
    · intro wx hSw
      try dsimp only at hSw
      have u1 := hx0 wx hSw
      go_simp
      try with_reducible rfl
    try simp only [Act.put, List.setIfInBounds_toArray, List.set_cons_zero, List.set_cons_succ]
    refine wpAnyH_take (i := 14) (oi := ({ dst := some 11, op := Go.Op.assign (Go.Operand.tmp 59), type := 25, pos := "more.go:24", after := #[{ on := 12, ground := Go.Ground.data }, { on := 13, ground := Go.Ground.chain }, { on := 0, ground := Go.Ground.phase }, { on := 1, ground := Go.Ground.phase }, { on := 2, ground := Go.Ground.phase }, { on := 3, ground := Go.Ground.phase }, { on := 4, ground := Go.Ground.phase }, { on := 5, ground := Go.Ground.phase }, { on := 6, ground := Go.Ground.phase }, { on := 7, ground := Go.Ground.phase }, { on := 8, ground := Go.Ground.phase }, { on := 9, ground := Go.Ground.phase }, { on := 10, ground := Go.Ground.phase }, { on := 11, ground := Go.Ground.phase }, { on := 12, ground := Go.Ground.phase }, { on := 13, ground := Go.Ground.phase }], guard := none } : Go.Oper)) (v := .int .i64 0) rfl (by kernel_rfl) (by kernel_rfl) (by kernel_rfl) (fun _ _ _ h => h) (Or.inl ⟨by rfl, ?_⟩) (by assumption) ?_
    · intro wx hSw
      try dsimp only at hSw
      have u1 := hx0 wx hSw
      go_simp
      try with_reducible rfl
    try simp only [Act.put, List.setIfInBounds_toArray, List.set_cons_zero, List.set_cons_succ]
    refine wpAnyH_done (by kernel_rfl) ?_ _
    clear hnext ham hadd hx0
    have y1 := x1 _ (bt hb hHeld)
    go_wp2_with fail
    refine (among_any xl 50 _ (by decide) (by decide)).mono ?_
    rintro e w5 ⟨rfl, rfl⟩
    obtain ⟨nn, hnn⟩ : ∃ m : Nat, xl % 50 = (m : Int) := ⟨(xl % 50).toNat, by omega⟩
    have hnn1 : nn < 50 := by omega
    rw [hnn]
    clear hnn
    have HS5 : Hid (HQ wr.drew R q Q ∧ ed = edgeE Q) := ⟨HS.out.1.later hHeld, HS.out.2⟩
    have hb5 := bt hb hHeld
    have hR5 : R ≤ wr.drew.heap.size := hRr
    clear HS hHeld hb hRr y1
    generalize wr.drew = w5 at *
    obtain ⟨w6, hmk, hbo6, hb6⟩ := mk_bytes w5 nn (by omega)
    have hcv := conv_bytes (bs := List.replicate nn 0) (c := nn) (by rw [List.length_replicate]; exact hbo6)
    rw [List.length_replicate] at hcv
    obtain ⟨zs, hzs⟩ : ∃ x, x = strB (List.replicate nn 0) := ⟨_, rfl⟩
    rw [← hzs] at hcv
    have hzl : zs.size ≤ 65536 := by rw [hzs, strB_size, List.length_replicate]; omega
    clear hzs hbo6
    have HS6 : Hid (HQ w6 R q Q ∧ ed = edgeE Q) := ⟨HS5.out.1.later hb6, HS5.out.2⟩
    have hR6 := Nat.le_trans hR5 hb6.size
    go_wp2_with fail
    refine (hq_put HS6.out.1 hR6 at_ zs hzl ha0 ha1).mono ?_
    rintro e w7 ⟨L, rfl, hL, hQ7, hb7⟩
    obtain ⟨Q7, hQ7e⟩ : ∃ x, x = goQ Q (putA Q at_ zs.data.toList) L := ⟨_, rfl⟩
    rw [← hQ7e] at hQ7
    have HE7 : Hid (ed = edgeE Q7) := by
      show _ = _
      rw [HS6.out.2, hQ7e]
      rw [hQ7e] at hQ7
      exact (edge_put HS6.out.1.f hQ7.f).symm
    have hbw7 : Below w.heap.size w w7 := (bt hb5 hb6).trans (hb7.mono hwR)
    have hR7 : R ≤ w7.heap.size := Nat.le_trans hR6 hb7.size
    clear hQ7e HS5 HS6 hmk hcv hL hb7 hb6 hb5
    have hfn7 : 0 ≤ Q7.next ∧ Q7.next ≤ 4294967295 := ⟨hQ7.f.n0, hQ7.f.n1⟩
    have hwn7 : ((Q7.room - Q7.bs.length : Nat) : Int) ≤ 65536 := by have := hQ7.f.r1; omega
    go_wp2_with fail
    refine (hq_next hQ7).mono ?_
    rintro e w8 ⟨rfl, rfl⟩
    go_wp2_with fail
    refine (hq_window hQ7).mono ?_
    rintro e w9 ⟨rfl, hb9⟩
    have hQ9 := hQ7.later hb9
    go_wp2_with fail
    refine (adds hfn7 ⟨by omega, hwn7⟩ w9).mono ?_
    rintro e w10 ⟨rfl, rfl⟩
    rw [show (Q7.next + ((Q7.room - Q7.bs.length : Nat) : Int)) % 4294967296 = ed from HE7.out.symm]
    have hbw9 := bt hbw7 hb9
    have hR9 := Nat.le_trans hR7 hb9.size
    have y2 := x2 _ hbw9
    have hee : (ed != ed) = false := by simp
    go_wp2_with fail
    refine (among_any xr 60 _ (by decide) (by decide)).mono ?_
    rintro e w11 ⟨rfl, rfl⟩
    obtain ⟨mr, hmr⟩ : ∃ x, x = xr % 60 := ⟨_, rfl⟩
    rw [← hmr]
    clear hmr
    go_wp2_with fail
    refine (hq_read hQ9 hR9 mr).mono ?_
    rintro e w12 ⟨rfl, hQ12, hb12⟩
    have hrn := readN_le Q7 mr
    have hr65 : Q7.bs.length ≤ 65536 := by have := hQ7.f.r1; have := hQ7.f.ln; omega
    have HE12 : Hid ((ed + (readN Q7 mr : Int)) % 4294967296 = edgeE (readQ Q7 (readN Q7 mr))) := by
      show _ = _
      rw [HE7.out]
      exact (edge_read hQ7.f hrn).symm
    have hst : (strB (Q7.bs.take (readN Q7 mr))).size = readN Q7 mr := by rw [strB_size, List.length_take]; omega
    obtain ⟨rs, hrs⟩ : ∃ x, x = strB (Q7.bs.take (readN Q7 mr)) := ⟨_, rfl⟩
    rw [← hrs] at hst ⊢
    clear hrs
    generalize readN Q7 mr = rn at *
    have hed : 0 ≤ ed ∧ ed ≤ 4294967295 := by rw [HE7.out]; unfold edgeE; omega
    have hbw12 := hbw9.trans (hb12.mono hwR)
    have hR12 := Nat.le_trans hR9 hb12.size
    clear hQ7 hQ9 hb9 hb12 hbw7 hbw9 y2 HE7
    go_wp2_with fail
    refine (adds hed ⟨by omega, by omega⟩ w12).mono ?_
    rintro e w13 ⟨rfl, rfl⟩
    rw [HE12.out]
    obtain ⟨Q12, hq12⟩ : ∃ x, x = readQ Q7 rn := ⟨_, rfl⟩
    rw [← hq12] at hQ12 ⊢
    clear hq12 HE12
    have hfn12 : 0 ≤ Q12.next ∧ Q12.next ≤ 4294967295 := ⟨hQ12.f.n0, hQ12.f.n1⟩
    have hwn12 : ((Q12.room - Q12.bs.length : Nat) : Int) ≤ 65536 := by have := hQ12.f.r1; omega
    obtain ⟨e12, he12⟩ : ∃ x, x = edgeE Q12 := ⟨_, rfl⟩
    rw [← he12]
    have HE : Hid (e12 = edgeE Q12) := he12
    clear he12
    go_wp2_with fail
    refine (hq_next hQ12).mono ?_
    rintro e w14 ⟨rfl, rfl⟩
    go_wp2_with fail
    refine (hq_window hQ12).mono ?_
    rintro e w15 ⟨rfl, hb15⟩
    go_wp2_with fail
    refine (adds hfn12 ⟨by omega, hwn12⟩ w15).mono ?_
    rintro e w16 ⟨rfl, rfl⟩
    rw [show (Q12.next + ((Q12.room - Q12.bs.length : Nat) : Int)) % 4294967296 = e12 from HE.out.symm]
    have hee2 : (e12 != e12) = false := by simp
    go_wp2
    go_roundw
    case rel => exact ⟨k + 1, Q12, e12, by simp, by omega, rfl, ⟨hQ12.later hb15, HE.out⟩, bt hbw12 hb15, Nat.le_trans hR12 hb15.size⟩
    case measure => first | omega | (simp only [RowKit.intOf]; omega) | (simp [RowKit.intOf]; omega)
end Go.Proofs.Ytiglaalppaljbaa
