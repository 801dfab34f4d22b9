/- SendqPlays: the loop. -/
import Derived.Test.YtlbdecjppgjdiaaDTm
import Derived.Test.YtlbdecjppgjdiaaDTp
namespace Go.Proofs.Ytlbdecjppgjdiaa
open Go.RowKit Go.Maps Go.Lib
set_option maxRecDepth 100000
set_option linter.unusedVariables false
set_option linter.unusedSimpArgs false


theorem own_move {w : World} {R R' : Bk} {e : TypeId} {size : Nat} {v : Value} {n : Nat} {xs : List Value} (h : OwnP w R e size v n xs) (hm : ∀ k, R k → k < w.heap.size → R' k) : OwnP w R' e size v n xs :=
  ⟨h.1, h.2.imp id (fun ⟨g, cap, cur, hv, hg, hb, r⟩ => ⟨g, cap, cur, hv, hm g hg (Array.getElem?_eq_some_iff.1 hb).1, hb, r⟩)⟩
theorem PX.move {w : World} {R R' : Bk} {q r : Nat} {Q : Qu} {U : Ru} {vb vp vg : Value} (h : PX w R q r Q U vb vp vg) (hm : ∀ k, R k → k < w.heap.size → R' k) (hu : UpR R' w) : PX w R' q r Q U vb vp vg :=
  ⟨⟨h.x.at5, h.x.kd, hm q h.x.ge h.x.kd.lt, own_move h.x.bo hm, own_move h.x.po hm⟩, ⟨h.y.at5, h.y.kd, hm r h.y.ge h.y.kd.lt, own_move h.y.go hm⟩, h.l, h.f, hu⟩
theorem own_off {ts : List TypeId} {w w' : World} {R R' : Bk} {e : TypeId} {size : Nat} {v : Value} {n : Nat} {xs : List Value} (h : OwnP w R e size v n xs) (ht : TY ts R' w w') (hd : ∀ k, R k → ¬ R' k) : OwnP w' R e size v n xs := row_turn h ht (fun k hk ⟨e1, _⟩ => hd k (h.blk k hk) e1)
theorem QX.off {ts : List TypeId} {w w' : World} {R R' : Bk} {q : Nat} {Q : Qu} {vb vp : Value} (h : QX w R q Q vb vp) (ht : TY ts R' w w') (hd : ∀ k, R k → ¬ R' k) : QX w' R q Q vb vp :=
  ⟨ht.low_at h.at5 (hd q h.ge), h.kd.turn ht (Or.inr (hd q h.ge)), h.ge, own_off h.bo ht hd, own_off h.po ht hd⟩
theorem PX.off {ts : List TypeId} {w w' : World} {R R' : Bk} {q r : Nat} {Q : Qu} {U : Ru} {vb vp vg : Value} (h : PX w R q r Q U vb vp vg) (ht : TY ts R' w w') (hd : ∀ k, R k → ¬ R' k) (hu : UpR R w') : PX w' R q r Q U vb vp vg :=
  ⟨h.x.off ht hd, ⟨ht.low_at h.y.at5 (hd r h.y.ge), h.y.kd.turn ht (Or.inr (hd r h.y.ge)), h.y.ge, own_off h.y.go ht hd⟩, h.l, h.f, hu⟩
theorem QX.move {w : World} {R R' : Bk} {q : Nat} {Q : Qu} {vb vp : Value} (h : QX w R q Q vb vp) (hm : ∀ k, R k → k < w.heap.size → R' k) : QX w R' q Q vb vp := ⟨h.at5, h.kd, hm q h.ge h.kd.lt, own_move h.bo hm, own_move h.po hm⟩
theorem RX.move {w : World} {R R' : Bk} {r : Nat} {U : Ru} {vg : Value} (h : RX w R r U vg) (hm : ∀ k, R k → k < w.heap.size → R' k) : RX w R' r U vg := ⟨h.at5, h.kd, hm r h.ge h.kd.lt, own_move h.go hm⟩
theorem RX.off {ts : List TypeId} {w w' : World} {R R' : Bk} {r : Nat} {U : Ru} {vg : Value} (h : RX w R r U vg) (ht : TY ts R' w w') (hd : ∀ k, R k → ¬ R' k) : RX w' R r U vg := ⟨ht.low_at h.at5 (hd r h.ge), h.kd.turn ht (Or.inr (hd r h.ge)), h.ge, own_off h.go ht hd⟩
theorem fork_write {w : World} {R : Bk} {g : Nat} {Q : Qu} {vb vp : Value} (h : QX w R g Q vb vp) (hf : Q.Fine) (hR : UpR R w) (s : ByteArray) (hs : s.size ≤ 1000000) :
    Calls Try.prog 13 #[PQ g, .string s] w fun e w' => ∃ (x c : Int) (Q' : Qu) (vb' vp' : Value), e = .returned (.tuple #[.int .i64 x, .int .i64 c]) ∧ Q'.Fine ∧ QX w' R g Q' vb' vp' ∧ TK R w w' := by
  cases hb : fullB Q s with
  | true => exact (write_full h hf s hb).mono (fun e w' ⟨h1, h2⟩ => ⟨_, _, Q, vb, vp, h1, hf, h.later h2, TY.of_below h2⟩)
  | false => exact (write_t h hf hR s hs hb).mono (fun e w' ⟨h1, ⟨vb', h2⟩, h3⟩ => ⟨_, _, _, vb', vp, h1, wrQ_fine hf s, h2, h3⟩)
theorem fork_probe {w : World} {R : Bk} {g : Nat} {Q : Qu} {vb vp : Value} (h : QX w R g Q vb vp) (hf : Q.Fine) :
    Calls Try.prog 14 #[PQ g] w fun e w' => ∃ (x : Int) (s : ByteArray), e = .returned (.tuple #[.int .i64 x, .string s]) ∧ TK R w w' := by
  rcases Nat.eq_zero_or_pos Q.sent with h0 | h0
  · exact (probe_no h hf h0).mono (fun e w' ⟨h1, h2, h3⟩ => ⟨_, _, h1, h3⟩)
  · exact (probe_yes h hf h0).mono (fun e w' ⟨h1, h2⟩ => ⟨_, _, h1, TY.of_below h2⟩)
set_option maxHeartbeats 8000000 in
theorem plays_t (first room : Int) (a : Option Addr) (n cap : Nat) (w : World) (h0 : 0 ≤ first) (h1 : first ≤ 4294967295) (r0 : 1 ≤ room) (r1 : room ≤ 65536) (hr : Flatx.Rows (XR w) w a n 6 [.i, .i, .i, .s, .x 31, .b]) (hz : n < 1000000000000000) :
    Calls Try.prog 3 #[.int .i64 first, .int .i64 room, .slice a n cap] w fun e w' => e = .returned (.bool true) ∧ Below w.heap.size w w' := by
  have HA : Hid (Flatx.Rows (XR w) w a n 6 [.i, .i, .i, .s, .x 31, .b]) := hr
  clear hr
  go_enter Try.func3, Try.ntmps3
  go_wp2_with fail
  refine (new_t first room w h0 h1 r0 r1).mono ?_
  rintro e w1 ⟨rfl, hX1, hb1⟩
  go_wp2_with fail
  refine (rnew_t first room w1 h0 h1 r0 r1).mono ?_
  rintro e w2 ⟨rfl, hY2, hb2⟩
  have hs1 := hb1.size
  have hbw2 := bt hb1 hb2
  have hf0 : (⟨room, first, 0, [], []⟩ : Qu).Fine := ⟨r0, r1, h0, h1, by show ((0 : Nat) : Int) ≤ room; omega, Nat.zero_le _, List.Pairwise.nil, fun e he => by cases he⟩
  have hP2 : PX w2 (fun k => w.heap.size ≤ k) w.heap.size w1.heap.size ⟨room, first, 0, [], []⟩ ⟨room, first, 0, [], []⟩ (.slice none 0 0) (.slice none 0 0) (.slice none 0 0) := ⟨hX1.later hb2, hY2.move (fun k h _ => Nat.le_trans hs1 h), RL.new _ _, hf0, fun k hk => Nat.le_trans hbw2.size hk⟩
  obtain ⟨q, hq⟩ : ∃ x, x = w.heap.size := ⟨_, rfl⟩
  obtain ⟨r, hrr⟩ : ∃ x, x = w1.heap.size := ⟨_, rfl⟩
  rw [show PQ w.heap.size = PQ q by rw [hq], show PR w1.heap.size = PR r by rw [hrr]]
  have hP2 : PX w2 (fun k => w.heap.size ≤ k) q r ⟨room, first, 0, [], []⟩ ⟨room, first, 0, [], []⟩ (.slice none 0 0) (.slice none 0 0) (.slice none 0 0) := by rw [hq, hrr]; exact hP2
  clear hX1 hY2 hb1 hb2 hf0 hq hrr
  go_wp2_with fail
  refine (works_any w2).mono ?_
  rintro e w3 ⟨rfl, hb3⟩
  have HP3 : Hid (∃ Q U vb vp vg, PX w3 (fun k => w.heap.size ≤ k) q r Q U vb vp vg) := ⟨_, _, _, _, _, hP2.later hb3⟩
  have hbw3 := bt hbw2 hb3
  clear hP2 hbw2 hb3 hs1
  go_wp2_with fail
  try go_frame
  go_loopw [11] (fun s11 wr => ∃ (i : Nat), i ≤ n ∧ s11 = .int .i64 (i : Int) ∧ Hid (∃ Q U vb vp vg, PX wr (fun k => w.heap.size ≤ k) q r Q U vb vp vg) ∧ Below w.heap.size w wr) (fun s11 _ => n - (RowKit.intOf s11).toNat)
  case atStart => exact ⟨0, Nat.zero_le _, rfl, HP3, hbw3⟩
  case round =>
    clear HP3 hbw3
    obtain ⟨i, hi, rfl, HP, hb⟩ := hrel
    go_upto_region 6 with fail
    go_cut [55] from 44 to 54 (fun s55 W => s55 = .bool (decide (i < n ∧ i < 60)) ∧ W = wr)
    case first =>
      by_cases z0 : i < n
      · have z2 : (i : Int) < (n : Int) := by omega
        by_cases z1 : i < 60
        · have z3 : (i : Int) < 60 := by omega
          go_wp2
          go_meet
          case rel => exact ⟨by rw [decide_eq_true ⟨z0, z1⟩], rfl⟩
        · have z3 : ¬ (i : Int) < 60 := by omega
          go_wp2
          go_meet
          case rel => exact ⟨by rw [decide_eq_false (fun h => z1 h.2)], rfl⟩
      · have z2 : ¬ (i : Int) < (n : Int) := by omega
        go_wp2
        go_meet
        case rel => exact ⟨by rw [decide_eq_false (fun h => z0 h.1)], rfl⟩
    case rest =>
    obtain ⟨rfl, hw4⟩ := hcut
    subst hw4
    obtain ⟨wr, hw4⟩ : ∃ x, x = wc := ⟨wc, rfl⟩
    subst hw4
    by_cases hlt : i < n ∧ i < 60
    rotate_left
    · rw [decide_eq_false hlt]
      clear hlt
      go_wp2
      go_ret
      exact ⟨rfl, hb⟩
    rw [decide_eq_true hlt]
    obtain ⟨ab, off, rfl, hrow⟩ : ∃ b off, a = some ⟨b, off, none⟩ ∧ ∀ k, k < n → ∃ cs : List Value, Flatx.Ok (XR w) [.i, .i, .i, .s, .x 31, .b] cs ∧ ∀ j v, cs[j]? = some v → w.cell? ⟨b, off + k * 6 + j, none⟩ = some v := by
      rcases HA.out with h | h
      · omega
      · exact h
    obtain ⟨cs, ⟨hcl, hck⟩, hcc⟩ := hrow i hlt.1
    clear hrow
    match cs, hcl with
    | [v0, v1, v2, v3, v4, v5], _ =>
    obtain ⟨kd, rfl, wkd⟩ := hck 0 _ _ rfl rfl
    obtain ⟨nn, rfl, wnn⟩ := hck 1 _ _ rfl rfl
    obtain ⟨mm, rfl, wmm⟩ := hck 2 _ _ rfl rfl
    obtain ⟨t, rfl, wt⟩ := hck 3 _ _ rfl rfl
    have hXR : XR w 31 v4 := hck 4 _ _ rfl rfl
    obtain ⟨nr, rfl⟩ := hck 5 _ _ rfl rfl
    obtain ⟨rs, hrs⟩ := (hXR rfl).rd
    obtain ⟨al, cl, rfl, hcz, hel⟩ := hrs
    have hrs : RRd w (.slice al rs.length cl) rs := ⟨al, cl, rfl, hcz, hel⟩
    obtain ⟨ln, hln⟩ : ∃ x, x = rs.length := ⟨_, rfl⟩
    rw [← hln] at hcc hrs
    have HLN : Hid (ln = rs.length) := hln
    clear hXR hln hcz hel
    have x0 : ∀ W, Below w.heap.size w W → W.cell? ⟨ab, off + i * 6, none⟩ = some (.int .i64 kd) := fun W hW => later hW (hcc 0 _ rfl)
    have x1 : ∀ W, Below w.heap.size w W → W.cell? ⟨ab, off + i * 6 + 1, none⟩ = some (.int .i64 nn) := fun W hW => later hW (hcc 1 _ rfl)
    have x2 : ∀ W, Below w.heap.size w W → W.cell? ⟨ab, off + i * 6 + 2, none⟩ = some (.int .i64 mm) := fun W hW => later hW (hcc 2 _ rfl)
    have x3 : ∀ W, Below w.heap.size w W → W.cell? ⟨ab, off + i * 6 + 3, none⟩ = some (.string t) := fun W hW => later hW (hcc 3 _ rfl)
    have x4 : ∀ W, Below w.heap.size w W → W.cell? ⟨ab, off + i * 6 + 4, none⟩ = some (.slice al ln cl) := fun W hW => later hW (hcc 4 _ rfl)
    have x5 : ∀ W, Below w.heap.size w W → W.cell? ⟨ab, off + i * 6 + 5, none⟩ = some (.bool nr) := fun W hW => later hW (hcc 5 _ rfl)
    have hin := hlt.1
    clear hcc hck hlt
    have hk1 : (i : Int) < (n : Int) := by omega
    have hk3 : (0 : Int) ≤ (i : Int) := by omega
    have y3 := x3 wr hb
    have y4 := x4 wr hb
    by_cases hbig : 2000 < t.size
    · have hbI : (2000 : Int) < (t.size : Int) := by omega
      go_wp2
      go_roundw
      case rel => exact ⟨i + 1, by omega, by first | rfl | simp, HP, hb⟩
      case measure => first | omega | (simp only [RowKit.intOf]; omega) | (simp [RowKit.intOf]; omega)
    have hbI : ¬ (2000 : Int) < (t.size : Int) := by omega
    by_cases hbl : 50 < ln
    · have hlI : (50 : Int) < (ln : Int) := by omega
      go_wp2
      go_roundw
      case rel => exact ⟨i + 1, by omega, by first | rfl | simp, HP, hb⟩
      case measure => first | omega | (simp only [RowKit.intOf]; omega) | (simp [RowKit.intOf]; omega)
    have hlI : ¬ (50 : Int) < (ln : Int) := by omega
    obtain ⟨Q, U, vb, vp, vg, hp⟩ := HP.out
    clear HP
    go_wp2_with fail
    refine (fork_any hp.x hp.f).mono ?_
    rintro e w4 ⟨vb4, vp4, rfl, hG4, hb4⟩
    have hbw4 := bt hb hb4
    have hs4 := hb4.size
    have hbs := hb.size
    have hx0 : QX wr (fun k => w.heap.size ≤ k ∧ k < wr.heap.size) q Q vb vp := hp.x.move (fun k e1 e2 => ⟨e1, e2⟩)
    have hy0 : RX wr (fun k => w.heap.size ≤ k ∧ k < wr.heap.size) r U vg := hp.y.move (fun k e1 e2 => ⟨e1, e2⟩)
    have hrf : ∀ W, Below w4.heap.size w4 W → Calls Try.prog 12 #[PR r] W fun e w' => ∃ r' vg', e = .returned (PR r') ∧ W.heap.size ≤ r' ∧ RX w' (fun k => W.heap.size ≤ k) r' U vg' ∧ Below W.heap.size W w' := fun W hW => rfork_any ((hp.y.later hb4).later hW) (hp.l.fine hp.f)
    have hx4 := hx0.later hb4
    have hy4 := hy0.later hb4
    generalize hgz : wr.heap.size = g at *
    have HD4 : Hid (Below w4.heap.size w4 w4.drew) := (Below.refl _ _).drew
    go_upto_region 10 with fail
    clear y3 y4
    refine wp_region_held_drew (S := (fun W => Below w.heap.size w W)) (by kernel_rfl) ?_ (fun hHeld => ?_)
    · first | exact hbw4.drew | assumption
    refine wpAnyH_take (i := 0) (oi := ({ dst := some 76, op := Go.Op.move (Go.Operand.tmp 12), type := 23, pos := "law.go:69", after := #[], guard := none } : Go.Oper)) (v := .pointer (some ⟨g, 0, none⟩)) rfl (by kernel_rfl) (by kernel_rfl) (by kernel_rfl) (fun _ _ _ h => h) (Or.inl ⟨by rfl, ?_⟩) (by assumption) ?_
    · intro wx hSw
      try dsimp only at hSw
      have u0 := x0 wx hSw
      have u1 := x1 wx hSw
      have u2 := x2 wx hSw
      have u3 := x3 wx hSw
      have u4 := x4 wx hSw
      have u5 := x5 wx hSw
      go_simp
      try with_reducible rfl
    try simp only [Act.put, List.setIfInBounds_toArray, List.set_cons_zero, List.set_cons_succ]
    refine wpAnyH_take (i := 1) (oi := ({ dst := some 77, op := Go.Op.binOp Go.BinOp.eql 23 (Go.Operand.tmp 76) (Go.Operand.const (Go.Value.pointer none)) 23, type := 4, pos := "law.go:69", after := #[{ on := 0, ground := Go.Ground.data }], guard := none } : Go.Oper)) (v := .bool false) rfl (by kernel_rfl) (by kernel_rfl) (by kernel_rfl) (fun _ _ _ h => h) (Or.inl ⟨by rfl, ?_⟩) (by assumption) ?_
    · intro wx hSw
      try dsimp only at hSw
      have u0 := x0 wx hSw
      have u1 := x1 wx hSw
      have u2 := x2 wx hSw
      have u3 := x3 wx hSw
      have u4 := x4 wx hSw
      have u5 := x5 wx hSw
      go_simp
      try with_reducible rfl
    try simp only [Act.put, List.setIfInBounds_toArray, List.set_cons_zero, List.set_cons_succ]
    refine wpAnyH_take (i := 2) (oi := ({ dst := some 78, op := Go.Op.move (Go.Operand.tmp 77), type := 4, pos := "law.go:69", after := #[{ on := 1, ground := Go.Ground.data }], guard := none } : Go.Oper)) (v := .bool false) rfl (by kernel_rfl) (by kernel_rfl) (by kernel_rfl) (fun _ _ _ h => h) (Or.inl ⟨by rfl, ?_⟩) (by assumption) ?_
    · intro wx hSw
      try dsimp only at hSw
      have u0 := x0 wx hSw
      have u1 := x1 wx hSw
      have u2 := x2 wx hSw
      have u3 := x3 wx hSw
      have u4 := x4 wx hSw
      have u5 := x5 wx hSw
      go_simp
      try with_reducible rfl
    try simp only [Act.put, List.setIfInBounds_toArray, List.set_cons_zero, List.set_cons_succ]
    refine wpAnyH_take (i := 3) (oi := ({ dst := some 79, op := Go.Op.move (Go.Operand.tmp 12), type := 23, pos := "law.go:69", after := #[{ on := 2, ground := Go.Ground.guard }], guard := some (2, false) } : Go.Oper)) (v := .pointer (some ⟨g, 0, none⟩)) rfl (by kernel_rfl) (by kernel_rfl) (by kernel_rfl) (fun _ _ _ h => h) (Or.inl ⟨by rfl, ?_⟩) (by assumption) ?_
    · intro wx hSw
      try dsimp only at hSw
      have u0 := x0 wx hSw
      have u1 := x1 wx hSw
      have u2 := x2 wx hSw
      have u3 := x3 wx hSw
      have u4 := x4 wx hSw
      have u5 := x5 wx hSw
      go_simp
      try with_reducible rfl
    try simp only [Act.put, List.setIfInBounds_toArray, List.set_cons_zero, List.set_cons_succ]
    refine wpAnyH_take (i := 4) (oi := ({ dst := some 80, op := Go.Op.move (Go.Operand.tmp 9), type := 27, pos := "law.go:69", after := #[{ on := 2, ground := Go.Ground.guard }], guard := some (2, false) } : Go.Oper)) (v := .pointer (some ⟨r, 0, none⟩)) rfl (by kernel_rfl) (by kernel_rfl) (by kernel_rfl) (fun _ _ _ h => h) (Or.inl ⟨by rfl, ?_⟩) (by assumption) ?_
    · intro wx hSw
      try dsimp only at hSw
      have u0 := x0 wx hSw
      have u1 := x1 wx hSw
      have u2 := x2 wx hSw
      have u3 := x3 wx hSw
      have u4 := x4 wx hSw
      have u5 := x5 wx hSw
      go_simp
      try with_reducible rfl
    try simp only [Act.put, List.setIfInBounds_toArray, List.set_cons_zero, List.set_cons_succ]
    refine wpAnyH_take (i := 6) (oi := ({ dst := some 82, op := Go.Op.move (Go.Operand.tmp 2), type := 22, pos := "law.go:69", after := #[{ on := 2, ground := Go.Ground.guard }], guard := some (2, false) } : Go.Oper)) (v := .slice (some ⟨ab, off, none⟩) n cap) rfl (by kernel_rfl) (by kernel_rfl) (by kernel_rfl) (fun _ _ _ h => h) (Or.inl ⟨by rfl, ?_⟩) (by assumption) ?_
    · intro wx hSw
      try dsimp only at hSw
      have u0 := x0 wx hSw
      have u1 := x1 wx hSw
      have u2 := x2 wx hSw
      have u3 := x3 wx hSw
      have u4 := x4 wx hSw
      have u5 := x5 wx hSw
      go_simp
      try with_reducible rfl
    try simp only [Act.put, List.setIfInBounds_toArray, List.set_cons_zero, List.set_cons_succ]
    refine wpAnyH_take (i := 7) (oi := ({ dst := some 83, op := Go.Op.move (Go.Operand.tmp 11), type := 3, pos := "law.go:69", after := #[{ on := 2, ground := Go.Ground.guard }], guard := some (2, false) } : Go.Oper)) (v := .int .i64 (i : Int)) rfl (by kernel_rfl) (by kernel_rfl) (by kernel_rfl) (fun _ _ _ h => h) (Or.inl ⟨by rfl, ?_⟩) (by assumption) ?_
    · intro wx hSw
      try dsimp only at hSw
      have u0 := x0 wx hSw
      have u1 := x1 wx hSw
      have u2 := x2 wx hSw
      have u3 := x3 wx hSw
      have u4 := x4 wx hSw
      have u5 := x5 wx hSw
      go_simp
      try with_reducible rfl
    try simp only [Act.put, List.setIfInBounds_toArray, List.set_cons_zero, List.set_cons_succ]
    refine wpAnyH_take (i := 8) (oi := ({ dst := some 84, op := Go.Op.indexAddr 22 (Go.Operand.tmp 82) (Go.Operand.tmp 83), type := 0, pos := "law.go:69", after := #[{ on := 6, ground := Go.Ground.data }, { on := 7, ground := Go.Ground.data }, { on := 2, ground := Go.Ground.guard }], guard := some (2, false) } : Go.Oper)) (v := .pointer (some ⟨ab, off + i * 6, none⟩)) rfl (by kernel_rfl) (by kernel_rfl) (by kernel_rfl) (fun _ _ _ h => h) (Or.inl ⟨by rfl, ?_⟩) (by assumption) ?_
    · intro wx hSw
      try dsimp only at hSw
      have u0 := x0 wx hSw
      have u1 := x1 wx hSw
      have u2 := x2 wx hSw
      have u3 := x3 wx hSw
      have u4 := x4 wx hSw
      have u5 := x5 wx hSw
      go_simp
      try with_reducible rfl
    try simp only [Act.put, List.setIfInBounds_toArray, List.set_cons_zero, List.set_cons_succ]
    refine wpAnyH_take (i := 9) (oi := ({ dst := some 85, op := Go.Op.load 33 (Go.Operand.tmp 84), type := 33, pos := "law.go:69", after := #[{ on := 8, ground := Go.Ground.data }, { on := 2, ground := Go.Ground.guard }], guard := some (2, false) } : Go.Oper)) (v := .agg #[.int .i64 kd, .int .i64 nn, .int .i64 mm, .string t, .slice al ln cl, .bool nr]) rfl (by kernel_rfl) (by kernel_rfl) (by kernel_rfl) (fun _ _ _ h => h) (Or.inl ⟨by rfl, ?_⟩) (by assumption) ?_
    · intro wx hSw
      try dsimp only at hSw
      have u0 := x0 wx hSw
      have u1 := x1 wx hSw
      have u2 := x2 wx hSw
      have u3 := x3 wx hSw
      have u4 := x4 wx hSw
      have u5 := x5 wx hSw
      go_simp
      try with_reducible rfl
    try simp only [Act.put, List.setIfInBounds_toArray, List.set_cons_zero, List.set_cons_succ]
    refine wpAnyH_ready (rs := [5]) (by kernel_rfl) (by simp) ?_
    refine AllReadyH.cons (o := ({ dst := some 81, op := Go.Op.call { callee := Go.Callee.value (Go.Operand.func 12), args := #[Go.Operand.tmp 80], argTypes := #[27] }, type := 27, pos := "law.go:69", after := #[{ on := 4, ground := Go.Ground.data }, { on := 2, ground := Go.Ground.chain }, { on := 2, ground := Go.Ground.guard }], guard := some (2, false) } : Go.Oper)) rfl (fun K hK => ?_) AllReadyH.nil
    go_simp
    refine (hrf _ HD4.out).mono ?_
    rintro e w5 ⟨z, vg5, rfl, hz5, hZ5, hb5⟩
    have hb45 := bt HD4.out hb5
    have hs5 := hb45.size
    have hdz : w4.drew.heap.size = w4.heap.size := rfl
    rw [hdz] at hZ5
    have hPg : PX w5 (fun k => g ≤ k) g z Q U vb4 vp4 vg5 := ⟨hG4.later hb45, hZ5.move (fun k e1 _ => Nat.le_trans hs4 e1), hp.l, hp.f, fun k hk => by omega⟩
    refine hK.out _ _ (bt hbw4 hb45) (fun hHeld => ?_)
    clear hK K
    try simp only [Act.put, List.setIfInBounds_toArray, List.set_cons_zero, List.set_cons_succ]
    refine wpAnyH_ready (rs := [10]) (by kernel_rfl) (by simp) ?_
    refine AllReadyH.cons (o := ({ dst := some 86, op := Go.Op.call { callee := Go.Callee.value (Go.Operand.func 11), args := #[Go.Operand.tmp 79, Go.Operand.tmp 81, Go.Operand.tmp 85], argTypes := #[23, 27, 33] }, type := 4, pos := "law.go:69", after := #[{ on := 3, ground := Go.Ground.data }, { on := 5, ground := Go.Ground.data }, { on := 9, ground := Go.Ground.data }, { on := 5, ground := Go.Ground.chain }, { on := 2, ground := Go.Ground.guard }], guard := some (2, false) } : Go.Oper)) rfl (fun K hK => ?_) AllReadyH.nil
    go_simp
    have hbw5 := bt hbw4 hb45
    refine (step_any hPg kd nn mm t nr (hrs.later hbw5) (by have := HLN.out; omega) (by omega) wnn wmm).mono ?_
    rintro e w6 ⟨rfl, Q6, U6, vb6, vp6, vg6, hPg6, ht6⟩
    have hs6 := ht6.size
    have hbw6 : Below w.heap.size w w6 := hbw5.trans (ht6.below hbw5.size (fun k h => Nat.le_trans hbs h))
    have hx6 := (hx4.later hb45).off ht6 (fun k e1 e2 => by omega)
    have hy6 := (hy4.later hb45).off ht6 (fun k e1 e2 => by omega)
    have hp6 : PX w6 (fun k => (w.heap.size ≤ k ∧ k < g) ∨ w6.heap.size ≤ k) q r Q U vb vp vg := ⟨hx6.move (fun k e1 _ => Or.inl e1), hy6.move (fun k e1 _ => Or.inl e1), hp.l, hp.f, fun k hk => Or.inr hk⟩
    refine hK.out _ _ hbw6 (fun hHeld => ?_)
    clear hK K
    try simp only [Act.put, List.setIfInBounds_toArray, List.set_cons_zero, List.set_cons_succ]
    refine wpAnyH_take (i := 11) (oi := ({ dst := some 87, op := Go.Op.unOp Go.UnOp.not 4 (Go.Operand.tmp 86), type := 4, pos := "law.go:69", after := #[{ on := 10, ground := Go.Ground.data }, { on := 2, ground := Go.Ground.guard }], guard := some (2, false) } : Go.Oper)) (v := .bool false) rfl (by kernel_rfl) (by kernel_rfl) (by kernel_rfl) (fun _ _ _ h => h) (Or.inl ⟨by rfl, ?_⟩) (by assumption) ?_
    · intro wx hSw
      try dsimp only at hSw
      have u0 := x0 wx hSw
      have u1 := x1 wx hSw
      have u2 := x2 wx hSw
      have u3 := x3 wx hSw
      have u4 := x4 wx hSw
      have u5 := x5 wx hSw
      go_simp
      try with_reducible rfl
    try simp only [Act.put, List.setIfInBounds_toArray, List.set_cons_zero, List.set_cons_succ]
    refine wpAnyH_take (i := 12) (oi := ({ dst := some 88, op := Go.Op.pick (Go.Operand.tmp 78) (Go.Operand.const (Go.Value.bool true)) (Go.Operand.tmp 87), type := 4, pos := "law.go:69", after := #[{ on := 2, ground := Go.Ground.data }, { on := 11, ground := Go.Ground.data }], guard := none } : Go.Oper)) (v := .bool false) rfl (by kernel_rfl) (by kernel_rfl) (by kernel_rfl) (fun _ _ _ h => h) (Or.inl ⟨by rfl, ?_⟩) (by assumption) ?_
    · intro wx hSw
      try dsimp only at hSw
      have u0 := x0 wx hSw
      have u1 := x1 wx hSw
      have u2 := x2 wx hSw
      have u3 := x3 wx hSw
      have u4 := x4 wx hSw
      have u5 := x5 wx hSw
      go_simp
      try with_reducible rfl
    try simp only [Act.put, List.setIfInBounds_toArray, List.set_cons_zero, List.set_cons_succ]
    refine wpAnyH_take (i := 13) (oi := ({ dst := some 89, op := Go.Op.move (Go.Operand.tmp 88), type := 4, pos := "law.go:69", after := #[{ on := 12, ground := Go.Ground.data }, { on := 10, ground := Go.Ground.chain }], guard := none } : Go.Oper)) (v := .bool false) rfl (by kernel_rfl) (by kernel_rfl) (by kernel_rfl) (fun _ _ _ h => h) (Or.inl ⟨by rfl, ?_⟩) (by assumption) ?_
    · intro wx hSw
      try dsimp only at hSw
      have u0 := x0 wx hSw
      have u1 := x1 wx hSw
      have u2 := x2 wx hSw
      have u3 := x3 wx hSw
      have u4 := x4 wx hSw
      have u5 := x5 wx hSw
      go_simp
      try with_reducible rfl
    try simp only [Act.put, List.setIfInBounds_toArray, List.set_cons_zero, List.set_cons_succ]
    refine wpAnyH_take (i := 14) (oi := ({ dst := some 90, op := Go.Op.move (Go.Operand.tmp 7), type := 23, pos := "law.go:69", after := #[{ on := 13, ground := Go.Ground.guard }], guard := some (13, false) } : Go.Oper)) (v := .pointer (some ⟨q, 0, none⟩)) rfl (by kernel_rfl) (by kernel_rfl) (by kernel_rfl) (fun _ _ _ h => h) (Or.inl ⟨by rfl, ?_⟩) (by assumption) ?_
    · intro wx hSw
      try dsimp only at hSw
      have u0 := x0 wx hSw
      have u1 := x1 wx hSw
      have u2 := x2 wx hSw
      have u3 := x3 wx hSw
      have u4 := x4 wx hSw
      have u5 := x5 wx hSw
      go_simp
      try with_reducible rfl
    try simp only [Act.put, List.setIfInBounds_toArray, List.set_cons_zero, List.set_cons_succ]
    refine wpAnyH_take (i := 15) (oi := ({ dst := some 91, op := Go.Op.move (Go.Operand.tmp 9), type := 27, pos := "law.go:69", after := #[{ on := 13, ground := Go.Ground.guard }], guard := some (13, false) } : Go.Oper)) (v := .pointer (some ⟨r, 0, none⟩)) rfl (by kernel_rfl) (by kernel_rfl) (by kernel_rfl) (fun _ _ _ h => h) (Or.inl ⟨by rfl, ?_⟩) (by assumption) ?_
    · intro wx hSw
      try dsimp only at hSw
      have u0 := x0 wx hSw
      have u1 := x1 wx hSw
      have u2 := x2 wx hSw
      have u3 := x3 wx hSw
      have u4 := x4 wx hSw
      have u5 := x5 wx hSw
      go_simp
      try with_reducible rfl
    try simp only [Act.put, List.setIfInBounds_toArray, List.set_cons_zero, List.set_cons_succ]
    refine wpAnyH_take (i := 16) (oi := ({ dst := some 92, op := Go.Op.move (Go.Operand.tmp 2), type := 22, pos := "law.go:69", after := #[{ on := 13, ground := Go.Ground.guard }], guard := some (13, false) } : Go.Oper)) (v := .slice (some ⟨ab, off, none⟩) n cap) rfl (by kernel_rfl) (by kernel_rfl) (by kernel_rfl) (fun _ _ _ h => h) (Or.inl ⟨by rfl, ?_⟩) (by assumption) ?_
    · intro wx hSw
      try dsimp only at hSw
      have u0 := x0 wx hSw
      have u1 := x1 wx hSw
      have u2 := x2 wx hSw
      have u3 := x3 wx hSw
      have u4 := x4 wx hSw
      have u5 := x5 wx hSw
      go_simp
      try with_reducible rfl
    try simp only [Act.put, List.setIfInBounds_toArray, List.set_cons_zero, List.set_cons_succ]
    refine wpAnyH_take (i := 17) (oi := ({ dst := some 93, op := Go.Op.move (Go.Operand.tmp 11), type := 3, pos := "law.go:69", after := #[{ on := 13, ground := Go.Ground.guard }], guard := some (13, false) } : Go.Oper)) (v := .int .i64 (i : Int)) rfl (by kernel_rfl) (by kernel_rfl) (by kernel_rfl) (fun _ _ _ h => h) (Or.inl ⟨by rfl, ?_⟩) (by assumption) ?_
    · intro wx hSw
      try dsimp only at hSw
      have u0 := x0 wx hSw
      have u1 := x1 wx hSw
      have u2 := x2 wx hSw
      have u3 := x3 wx hSw
      have u4 := x4 wx hSw
      have u5 := x5 wx hSw
      go_simp
      try with_reducible rfl
    try simp only [Act.put, List.setIfInBounds_toArray, List.set_cons_zero, List.set_cons_succ]
    refine wpAnyH_take (i := 18) (oi := ({ dst := some 94, op := Go.Op.indexAddr 22 (Go.Operand.tmp 92) (Go.Operand.tmp 93), type := 0, pos := "law.go:69", after := #[{ on := 16, ground := Go.Ground.data }, { on := 17, ground := Go.Ground.data }, { on := 13, ground := Go.Ground.guard }], guard := some (13, false) } : Go.Oper)) (v := .pointer (some ⟨ab, off + i * 6, none⟩)) rfl (by kernel_rfl) (by kernel_rfl) (by kernel_rfl) (fun _ _ _ h => h) (Or.inl ⟨by rfl, ?_⟩) (by assumption) ?_
    · intro wx hSw
      try dsimp only at hSw
      have u0 := x0 wx hSw
      have u1 := x1 wx hSw
      have u2 := x2 wx hSw
      have u3 := x3 wx hSw
      have u4 := x4 wx hSw
      have u5 := x5 wx hSw
      go_simp
      try with_reducible rfl
    try simp only [Act.put, List.setIfInBounds_toArray, List.set_cons_zero, List.set_cons_succ]
    refine wpAnyH_take (i := 19) (oi := ({ dst := some 95, op := Go.Op.load 33 (Go.Operand.tmp 94), type := 33, pos := "law.go:69", after := #[{ on := 18, ground := Go.Ground.data }, { on := 13, ground := Go.Ground.guard }], guard := some (13, false) } : Go.Oper)) (v := .agg #[.int .i64 kd, .int .i64 nn, .int .i64 mm, .string t, .slice al ln cl, .bool nr]) rfl (by kernel_rfl) (by kernel_rfl) (by kernel_rfl) (fun _ _ _ h => h) (Or.inl ⟨by rfl, ?_⟩) (by assumption) ?_
    · intro wx hSw
      try dsimp only at hSw
      have u0 := x0 wx hSw
      have u1 := x1 wx hSw
      have u2 := x2 wx hSw
      have u3 := x3 wx hSw
      have u4 := x4 wx hSw
      have u5 := x5 wx hSw
      go_simp
      try with_reducible rfl
    try simp only [Act.put, List.setIfInBounds_toArray, List.set_cons_zero, List.set_cons_succ]
    refine wpAnyH_ready (rs := [20]) (by kernel_rfl) (by simp) ?_
    refine AllReadyH.cons (o := ({ dst := some 96, op := Go.Op.call { callee := Go.Callee.value (Go.Operand.func 11), args := #[Go.Operand.tmp 90, Go.Operand.tmp 91, Go.Operand.tmp 95], argTypes := #[23, 27, 33] }, type := 4, pos := "law.go:69", after := #[{ on := 14, ground := Go.Ground.data }, { on := 15, ground := Go.Ground.data }, { on := 19, ground := Go.Ground.data }, { on := 13, ground := Go.Ground.chain }, { on := 13, ground := Go.Ground.guard }], guard := some (13, false) } : Go.Oper)) rfl (fun K hK => ?_) AllReadyH.nil
    go_simp
    refine (step_any hp6 kd nn mm t nr (hrs.later hbw6) (by have := HLN.out; omega) (by omega) wnn wmm).mono ?_
    rintro e w7 ⟨rfl, Q7, U7, vb7, vp7, vg7, hp7, ht7⟩
    have hbw7 : Below w.heap.size w w7 := hbw6.trans (ht7.below hbw6.size (fun k h => by have := hbw6.size; omega))
    refine hK.out _ _ hbw7 (fun hHeld => ?_)
    clear hK K
    try simp only [Act.put, List.setIfInBounds_toArray, List.set_cons_zero, List.set_cons_succ]
    refine wpAnyH_take (i := 21) (oi := ({ dst := some 97, op := Go.Op.unOp Go.UnOp.not 4 (Go.Operand.tmp 96), type := 4, pos := "law.go:69", after := #[{ on := 20, ground := Go.Ground.data }, { on := 13, ground := Go.Ground.guard }], guard := some (13, false) } : Go.Oper)) (v := .bool false) rfl (by kernel_rfl) (by kernel_rfl) (by kernel_rfl) (fun _ _ _ h => h) (Or.inl ⟨by rfl, ?_⟩) (by assumption) ?_
    · intro wx hSw
      try dsimp only at hSw
      have u0 := x0 wx hSw
      have u1 := x1 wx hSw
      have u2 := x2 wx hSw
      have u3 := x3 wx hSw
      have u4 := x4 wx hSw
      have u5 := x5 wx hSw
      go_simp
      try with_reducible rfl
    try simp only [Act.put, List.setIfInBounds_toArray, List.set_cons_zero, List.set_cons_succ]
    refine wpAnyH_take (i := 22) (oi := ({ dst := some 98, op := Go.Op.pick (Go.Operand.tmp 89) (Go.Operand.const (Go.Value.bool true)) (Go.Operand.tmp 97), type := 4, pos := "law.go:69", after := #[{ on := 13, ground := Go.Ground.data }, { on := 21, ground := Go.Ground.data }], guard := none } : Go.Oper)) (v := .bool false) rfl (by kernel_rfl) (by kernel_rfl) (by kernel_rfl) (fun _ _ _ h => h) (Or.inl ⟨by rfl, ?_⟩) (by assumption) ?_
    · intro wx hSw
      try dsimp only at hSw
      have u0 := x0 wx hSw
      have u1 := x1 wx hSw
      have u2 := x2 wx hSw
      have u3 := x3 wx hSw
      have u4 := x4 wx hSw
      have u5 := x5 wx hSw
      go_simp
      try with_reducible rfl
    try simp only [Act.put, List.setIfInBounds_toArray, List.set_cons_zero, List.set_cons_succ]
    refine wpAnyH_done (by kernel_rfl) ?_ _
    have hs67 := ht7.size
    have hsw6 := hbw6.size
    have hx7g : QX w7 (fun k => g ≤ k ∧ k < w6.heap.size) g Q6 vb6 vp6 := (hPg6.x.move (fun k e1 e2 => ⟨e1, e2⟩)).off ht7 (fun k e1 e2 => by omega)
    have hg7 : QX w7 (fun k => (g ≤ k ∧ k < w6.heap.size) ∨ w7.heap.size ≤ k) g Q6 vb6 vp6 := hx7g.move (fun k e1 _ => Or.inl e1)
    have hfg := hPg6.f
    have hq7 : QX w7 (fun k => ((w.heap.size ≤ k ∧ k < g) ∨ w6.heap.size ≤ k) ∧ k < w7.heap.size) q Q7 vb7 vp7 := hp7.x.move (fun k e1 e2 => ⟨e1, e2⟩)
    have hr7 : RX w7 (fun k => ((w.heap.size ≤ k ∧ k < g) ∨ w6.heap.size ≤ k) ∧ k < w7.heap.size) r U7 vg7 := hp7.y.move (fun k e1 e2 => ⟨e1, e2⟩)
    have hl7 := hp7.l
    have hf7 := hp7.f
    clear hx7g hp7 hPg6 hp6 hx6 hy6 hPg hZ5 hx0 hy0 hx4 hy4 hp hG4 hrf ht6 ht7 hrs
    go_wp2_with fail
    refine (fork_write hg7 hfg (fun k hk => Or.inr hk) ⟨#[102, 111, 114, 107]⟩ (by decide)).mono ?_
    rintro e w8 ⟨x8, c8, Q8, vb8, vp8, rfl, hf8, hg8, ht8⟩
    go_wp2_with fail
    refine (fork_probe hg8 hf8).mono ?_
    rintro e w9 ⟨x9, s9, rfl, ht9⟩
    have ht89 := ht8.trans ht9
    have hq9 : QX w9 (fun k => w.heap.size ≤ k) q Q7 vb7 vp7 := (hq7.off ht89 (fun k e1 e2 => by omega)).move (fun k e1 _ => by omega)
    have hr9 : RX w9 (fun k => w.heap.size ≤ k) r U7 vg7 := (hr7.off ht89 (fun k e1 e2 => by omega)).move (fun k e1 _ => by omega)
    have hbw9 : Below w.heap.size w w9 := hbw7.trans (ht89.below hbw7.size (fun k h => by have := hbw7.size; omega))
    clear hg7 hq7 hr7 hg8 ht8 ht9 ht89 hbw7
    go_wp2_with fail
    refine (state_any hq9 hf7).mono ?_
    rintro e w10 ⟨rfl, hb10⟩
    have hr10 := hr9.later hb10
    have rc0 : w10.cell? ⟨r, 0, none⟩ = some (.int .i64 Q7.left) := by rw [← hl7.left]; exact (hr10.at5.2 0 _ rfl).1
    have hn1 := rnext1_any hr10 (hl7.fine hf7)
    rw [hl7.left, hl7.sent] at hn1
    obtain ⟨nx, hnx⟩ : ∃ x, x = (Q7.left + (Q7.sent : Int)) % 4294967296 := ⟨_, rfl⟩
    rw [← hnx] at hn1 ⊢
    have hee : (nx != nx) = false := by simp
    have hee2 : (Q7.left != Q7.left) = false := by simp
    clear hnx
    go_wp2_with fail
    refine hn1.mono ?_
    rintro e w11 ⟨rfl, hb11⟩
    have hr11 := hr10.later hb11
    obtain ⟨ss, hss⟩ : ∃ x, x = strB U7.bs := ⟨_, rfl⟩
    have rc3 : w11.cell? ⟨r, 3, none⟩ = some (.string ss) := by rw [hss]; exact (hr11.at5.2 3 _ rfl).1
    have hne : ((Q7.bs.length : Int) != (ss.size : Int)) = false := by rw [hss, strB_size, hl7.bs]; simp
    have HF : Hid (∃ Q U vb vp vg, PX w11 (fun k => w.heap.size ≤ k) q r Q U vb vp vg) := ⟨_, _, _, _, _, (hq9.later hb10).later hb11, hr11, hl7, hf7, fun k hk => by have := hbw9.size; have := hb10.size; have := hb11.size; omega⟩
    have hbw11 := bt (bt hbw9 hb10) hb11
    clear hss rc0 hn1
    go_wp2
    go_roundw
    case rel => exact ⟨i + 1, by omega, by first | rfl | simp, HF, hbw11⟩
    case measure => first | omega | (simp only [RowKit.intOf]; omega) | (simp [RowKit.intOf]; omega)
end Go.Proofs.Ytlbdecjppgjdiaa
