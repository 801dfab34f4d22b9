/- WheelPlays, walked. -/
import Derived.Test.YtbdloehdhdifpaaDe
import Derived.Test.YtbdloehdhdifpaaXh
import Derived.Test.YtbdloehdhdifpaaWi
namespace Go.Proofs.Ytbdloehdhdifpaa
open Go.RowKit Go.Maps
set_option maxRecDepth 100000
set_option linter.unusedVariables false
set_option linter.unusedSimpArgs false

theorem put_len2 (L : List Tm) (e : Tm) : (putT L e).length ≤ L.length + 1 := by
  unfold putT
  rw [(perm_insT e (delT L e.1)).length_eq, List.length_cons]
  have := List.length_filter_le (fun x : Tm => x.1 != e.1) L
  unfold delT
  omega
theorem At.three {W : World} {b : Nat} {v0 v1 v2 : Value} (h : At W b #[v0, v1, v2]) : (W.cell? ⟨b, 0, none⟩ = some v0 ∧ W.cell? ⟨b, 1, none⟩ = some v1 ∧ W.cell? ⟨b, 2, none⟩ = some v2) ∧ True := ⟨⟨(h.2 0 _ rfl).1, (h.2 1 _ rfl).1, (h.2 2 _ rfl).1⟩, trivial⟩
theorem next_same (L : List Tm) : nextV L = nextR L := by cases L <;> rfl
theorem now_q (B M : Nat) (now : Int) (L : List Tm) (w : World) (hW : WH w B M now L) : Calls Try.prog 22 #[.pointer (some ⟨B, 0, none⟩)] w fun e w' => e = .returned (.int .i64 now) ∧ ∃ q, w' = w.drewN q := (now_any B M now L w hW).mono fun _ _ ⟨h, k⟩ => ⟨h, 0, k⟩
theorem set_fq (B : Nat) (n t : Int) (w : World) (h : setOk n t = false) : Calls Try.prog 10 #[.pointer (some ⟨B, 0, none⟩), .int .i64 n, .int .i64 t] w fun e w' => e = .returned (.int .i64 1) ∧ ∃ q, w' = w.drewN q := (set_f B n t w h).mono fun _ _ ⟨h, k⟩ => ⟨h, 0, k⟩
theorem rset_fq (R : Nat) (n t : Int) (w : World) (h : setOk n t = false) : Calls Try.prog 11 #[.pointer (some ⟨R, 0, none⟩), .int .i64 n, .int .i64 t] w fun e w' => e = .returned (.int .i64 1) ∧ ∃ q, w' = w.drewN q := (rset_f R n t w h).mono fun _ _ ⟨h, k⟩ => ⟨h, 0, k⟩
theorem drop_nq (B M : Nat) (now n : Int) (L : List Tm) (w : World) (hW : WH w B M now L) (hL : WL L) (hwf : (Lit.int .i64 n).wf = true) (hq : lkT L n = none) : Calls Try.prog 12 #[.pointer (some ⟨B, 0, none⟩), .int .i64 n] w fun e w' => e = .returned (.int .i64 5) ∧ ∃ q, w' = w.drewN q := (drop_n B M now n L w hW hL hwf hq).mono fun _ _ ⟨h, k⟩ => ⟨h, 0, k⟩
theorem rdrop_nq (R base : Nat) (now n : Int) (v : Value) (L : List Tm) (w : World) (hR : At w R #[.int .i64 now, v]) (hT : TR w base v L) (hL : WL L) (hq : lkT L n = none) : Calls Try.prog 13 #[.pointer (some ⟨R, 0, none⟩), .int .i64 n] w fun e w' => e = .returned (.int .i64 5) ∧ ∃ q, w' = w.drewN q := (rdrop_n R base now n v L w hR hT hL hq).mono fun _ _ ⟨h, k⟩ => ⟨h, 0, k⟩
/-- A wheel and the document's, which have the same timers. -/
structure PW (w : World) (B M R base : Nat) (now : Int) (L : List Tm) (v : Value) : Prop where
  wh : WH w B M now L
  wl : WL L
  rb : At w R #[.int .i64 now, v]
  tr : TR w base v L
  sz : base ≤ w.heap.size
theorem PW.later {w w' : World} {B M R base : Nat} {now : Int} {L : List Tm} {v : Value} (h : PW w B M R base now L v) (hb : Below w.heap.size w w') : PW w' B M R base now L v :=
  ⟨h.wh.later hb, h.wl, h.rb.later hb, h.tr.later hb, Nat.le_trans h.sz hb.size⟩
theorem plays_f (now : Int) (a : Option Addr) (n cap : Nat) (w : World) (h : tickB now = false) :
    Calls Try.prog 3 #[.int .i64 now, .slice a n cap] w fun e w' => e = .returned (.bool true) ∧ Bel w.heap.size w w' := by
  go_enter Try.func3, Try.ntmps3
  go_wp2_with fail
  refine (new_f now w h).mono ?_
  rintro e w1 ⟨rfl, rfl⟩
  go_wp2_with fail
  refine (rnew_f now w1 h).mono ?_
  rintro e w2 ⟨rfl, rfl⟩
  go_wp2_with fail
  refine (works_any _).mono ?_
  rintro e w3 ⟨rfl, hb⟩
  go_wp2
  refine wp_loop_rounds 1 ?_
  rw [rounds_succ]
  go_wp2
  go_ret
  exact ⟨rfl, hb⟩
set_option maxHeartbeats 16000000 in
theorem plays_t (now0 : Int) (a : Option Addr) (n cap : Nat) (w : World) (hr : Flat.Rows w a n 3 [.i, .i, .i]) (hz : n < 1000000000000000) (h : tickB now0 = true) :
    Calls Try.prog 3 #[.int .i64 now0, .slice a n cap] w fun e w' => e = .returned (.bool true) ∧ Bel w.heap.size w w' := by
  have HA : Hid (Flat.Rows w a n 3 [.i, .i, .i]) := hr
  clear hr
  have mixed : Try.prog.follows .mixedOrders = true := by kernel_rfl
  go_enter Try.func3, Try.ntmps3
  go_wp2_with fail
  refine (new_t now0 w h).mono ?_
  rintro e w1 ⟨B, M, rfl, hBb, hMb, hW1, hb1⟩
  go_wp2_with fail
  refine (rnew_t now0 w1 h).mono ?_
  rintro e w2 ⟨R, rfl, hRb, hR2, hb2⟩
  go_wp2_with fail
  refine (works_any w2).mono ?_
  rintro e w3 ⟨rfl, hb3⟩
  have hBM := hW1.ne
  have hlt1 := hW1.lt
  have hP3 : PW w3 B M R w3.heap.size now0 [] (.slice none 0 0) := ⟨(hW1.later hb2).later hb3, WL.nil, hR2.later hb3, Or.inl ⟨rfl, rfl⟩, Nat.le_refl _⟩
  have hbw := bt hb1 (bt hb2 hb3)
  have hB3 := hP3.wh.lt
  have hR3 := hP3.rb.1
  have hRB : R ≠ B := by omega
  have hRM : R ≠ M := by omega
  have hwR : w.heap.size ≤ R := Nat.le_trans hb1.size hRb
  obtain ⟨base, hbase⟩ : ∃ x, x = w3.heap.size := ⟨_, rfl⟩
  rw [← hbase] at hP3 hB3 hR3
  have hwb : w.heap.size ≤ base := by rw [hbase]; exact hbw.size
  clear hW1 hR2 hb1 hb2 hb3 hbase hRb hlt1
  go_wp2
  go_loopw [9] (fun i wr => ∃ (k : Nat) (now : Int) (L : List Tm) (v : Value), i = .int .i64 (k : Int) ∧ k ≤ n ∧ k ≤ 100 ∧ L.length ≤ k ∧ PW wr B M R base now L v ∧ Bel w.heap.size w wr) (fun i _ => n - (intOf i).toNat)
  case atStart => exact ⟨0, now0, [], _, rfl, Nat.zero_le _, by decide, Nat.le_refl _, hP3, hbw⟩
  case round =>
    clear hP3 hbw
    obtain ⟨k, now, L, v, rfl, hkn, hk100, hlk, hP, hbr⟩ := hrel
    by_cases hlt : k < n ∧ k < 100
    rotate_left
    · by_cases hkn' : (k : Int) < (n : Int)
      · have hk30' : ¬ (k : Int) < 100 := by omega
        go_wp2
        go_ret
        exact ⟨rfl, hbr⟩
      · go_wp2
        go_ret
        exact ⟨rfl, hbr⟩
    obtain ⟨ab, off, rfl, hrow⟩ : ∃ b off, a = some ⟨b, off, none⟩ ∧ ∀ k, k < n → ∃ cs : List Value, Flat.Ok [.i, .i, .i] cs ∧ ∀ j v, cs[j]? = some v → w.cell? ⟨b, off + k * 3 + j, none⟩ = some v := by
      rcases HA.out with h | h
      · omega
      · exact h
    obtain ⟨cs, ⟨hcl, hck⟩, hcc⟩ := hrow k hlt.1
    clear hrow
    match cs, hcl with
    | [v0, v1, v2], _ =>
    obtain ⟨kd, rfl, wkd⟩ := hck 0 _ _ rfl rfl
    obtain ⟨nm, rfl, wnm⟩ := hck 1 _ _ rfl rfl
    obtain ⟨at_, rfl, wat⟩ := hck 2 _ _ rfl rfl
    have x0 := later hbr (hcc 0 _ rfl)
    have x1 := later hbr (hcc 1 _ rfl)
    have x2 := later hbr (hcc 2 _ rfl)
    rw [Nat.add_zero] at x0
    clear hcc hck
    have hk1 : (k : Int) < (n : Int) := by omega
    have hk2 : (k : Int) < 100 := by omega
    have hk3 : (0 : Int) ≤ (k : Int) := by omega
    have q1 := bel1 wr (.cells #[.int .i64 kd, .int .i64 nm, .int .i64 at_] 32)
    have hAct := At.box wr #[.int .i64 kd, .int .i64 nm, .int .i64 at_] 32
    go_upto_region 9 with fail
    have hP1 := hP.later q1
    have hb1 := bt hbr q1
    have hszr := hP.sz
    obtain ⟨Ab, hAb⟩ : ∃ x, x = wr.heap.size := ⟨_, rfl⟩
    have hbA : base ≤ Ab := by omega
    rw [← hAb] at hAct
    rw [← hAb]
    clear x0 x1 x2 hP q1 hAb hbr hszr
    generalize wr.alloc (.cells #[.int .i64 kd, .int .i64 nm, .int .i64 at_] 32) = w5 at *
    obtain ⟨⟨a0, a1, a2⟩, -⟩ := hAct.three
    go_wp2_with fail
    refine (among_any kd 3 w5 (by decide) (by decide)).mono ?_
    rintro e w6 ⟨rfl, rfl⟩
    have hd0 : 0 ≤ kd % 3 := Int.emod_nonneg _ (by decide)
    have hd1 : kd % 3 < 3 := Int.emod_lt_of_pos _ (by decide)
    generalize kd % 3 = c at *
    obtain ⟨hW, hL, hR, hT, hsz⟩ := hP1
    have HP1 : Hid (PW w6 B M R base now L v) := ⟨hW, hL, hR, hT, hsz⟩
    have hll : L.length ≤ 100 := by omega
    have hAl := hAct.1
    have hWl := hW.lt
    by_cases hc0 : c = 0
    · subst hc0
      cases hok : setOk nm at_ with
      | false =>
        -- @1
        go_wp2_with fail
        go_quiet (first | (go_at_call 10; refine Calls.quiet_of (set_fq B nm at_ _ hok)) | (go_at_call 11; refine Calls.quiet_of (rset_fq R nm at_ _ hok)))
        have hP9 : PW (w6.drewN nq) B M R base now L v := HP1.out.later (below_drewN (Below.refl _ _) nq)
        have hA9 := hAct.drewN nq
        have hb9 := below_drewN hb1 nq
        have hl9 : L.length ≤ k + 1 := by omega
        clear hW hL hR hT hAct hb1 HP1 a0 a1 a2 hsz hAl hWl
        generalize w6.drewN nq = w9 at *
        obtain ⟨hW, hL, hR, hT, hsz⟩ := hP9
        obtain ⟨⟨a0, a1, a2⟩, -⟩ := hA9.three
        go_wp2_with fail
        refine (at_any B M now nm L w9 hW hL wnm).mono ?_
        rintro e wa ⟨rfl, rfl⟩
        go_wp2_with fail
        refine (rat_any R base now nm v L _ hR hT hL).mono ?_
        rintro e wb ⟨rfl, rfl⟩
        go_wp2_with fail
        refine (next_any B M now L _ hW hL).mono ?_
        rintro e wx ⟨rfl, hbx⟩
        have hPx : PW wx B M R base now L v := (PW.mk hW hL hR hT hsz).later hbx
        have hbz := bt hb9 hbx
        clear hW hR hT hsz hA9 hb9 hbx a0 a1 a2
        go_wp2_with fail
        refine (rnext_any R base now v L _ hPx.rb hPx.tr (by omega)).mono ?_
        rintro e wy ⟨rfl, rfl⟩
        rw [next_same]
        obtain ⟨r0, -, -, -⟩ := hPx.rb.two
        have hWx := hPx.wh
        generalize atR L nm = ar
        obtain ⟨ar1, ar2⟩ := ar
        generalize nextR L = nr
        obtain ⟨nr1, nr2⟩ := nr
        go_upto_region 25 with fail
        go_quiet ((go_at_call 22; refine Calls.quiet_of (now_q B M now L _ (by exact hWx))))
        have hPz := hPx.later (below_drewN (Below.refl _ _) nq)
        have hbq := below_drewN hbz nq
        clear hPx hbz r0 hWx
        go_wp2
        go_roundw
        case rel => exact ⟨k + 1, now, L, v, by simp, by omega, by omega, hl9, hPz, hbq⟩
        case measure => (simp [intOf]; try omega)
        -- @/1
      | true =>
        -- @2
        have hno : lkT L nm ≠ none ∨ L.length < 1024 := Or.inr (by omega)
        have hlp := put_len2 L (nm, at_)
        go_wp2_with fail
        go_region_held3 (fun W => W.cell? ⟨Ab, 1, none⟩ = some (.int .i64 nm) ∧ W.cell? ⟨Ab, 2, none⟩ = some (.int .i64 at_)) (first | exact ⟨a1, a2⟩ | exact ⟨b1, b2⟩ | exact ⟨d1, d2⟩)
         (first
          | (go_at_call 10; refine (set_t B M now nm at_ L _ (by exact hW) hL hok hno).mono ?_; rintro e w7 ⟨rfl, hW7, hL7, ht7'⟩; have ht7 : Turn (fun k => k = M) w6 w7 := (by first | exact ht7' | exact ht7'.undrew | exact ht7'.undrew.undrew); have hR7 := hR.turn ht7 hRM; have hT7 := hT.turn ht7 (fun j hj _ e => by omega); have hA7 := hAct.turn ht7 (by omega); have hb7 : Bel w.heap.size w w7 := bel_turn hb1 ht7 (fun j hj e => by omega) (Nat.le_refl _); have hs7 : base ≤ w7.heap.size := Nat.le_trans hsz ht7.size; obtain ⟨⟨b0, b1, b2⟩, -⟩ := hA7.three)
          | (go_at_call 11; refine (rset_t R base now nm at_ v L _ (by exact hR7) (by exact hT7) hL hR3 (by first | exact hs7 | (show base ≤ w7.heap.size; exact hs7)) hok hno).mono ?_; rintro e w9 ⟨rfl, v9, hR9, hT9, ht9'⟩; have ht9 : Turn (fun k => k = R) w7 w9 := (by first | exact ht9' | exact ht9'.undrew | exact ht9'.undrew.undrew); obtain ⟨⟨d0, d1, d2⟩, -⟩ := (hA7.turn ht9 (by omega)).three))
        all_goals
          have hP9 : PW w9 B M R base now (putT L (nm, at_)) v9 := ⟨hW7.turn ht9 (fun e => hRB e.symm) (fun e => hRM e.symm), hL7, hR9, hT9, Nat.le_trans hs7 ht9.size⟩
          have hA9 := hA7.turn ht9 (by omega)
          have hb9 : Bel w.heap.size w w9 := bel_turn hb7 ht9 (fun j hj e => by omega) (Nat.le_refl _)
          have hl9 : (putT L (nm, at_)).length ≤ k + 1 := by omega
          clear hW hL hR hT hAct hb1 HP1 a0 a1 a2 hsz hAl hWl hW7 hL7 hR7 hT7 hA7 hb7 hs7 hR9 hT9 ht9 ht7 ht9' ht7' b0 b1 b2 hno hlp
          generalize putT L (nm, at_) = L9 at *
          obtain ⟨hW, hL, hR, hT, hsz⟩ := hP9
          obtain ⟨⟨a0, a1, a2⟩, -⟩ := hA9.three
          go_wp2_with fail
          refine (at_any B M now nm L9 w9 hW hL wnm).mono ?_
          rintro e wa ⟨rfl, rfl⟩
          go_wp2_with fail
          refine (rat_any R base now nm v9 L9 _ hR hT hL).mono ?_
          rintro e wb ⟨rfl, rfl⟩
          go_wp2_with fail
          refine (next_any B M now L9 _ hW hL).mono ?_
          rintro e wx ⟨rfl, hbx⟩
          have hPx : PW wx B M R base now L9 v9 := (PW.mk hW hL hR hT hsz).later hbx
          have hbz := bt hb9 hbx
          clear hW hR hT hsz hA9 hb9 hbx a0 a1 a2
          go_wp2_with fail
          refine (rnext_any R base now v9 L9 _ hPx.rb hPx.tr (by omega)).mono ?_
          rintro e wy ⟨rfl, rfl⟩
          rw [next_same]
          obtain ⟨r0, -, -, -⟩ := hPx.rb.two
          have hWx := hPx.wh
          generalize atR L9 nm = ar
          obtain ⟨ar1, ar2⟩ := ar
          generalize nextR L9 = nr
          obtain ⟨nr1, nr2⟩ := nr
          go_upto_region 25 with fail
          go_quiet ((go_at_call 22; refine Calls.quiet_of (now_q B M now L9 _ (by exact hWx))))
          have hPz := hPx.later (below_drewN (Below.refl _ _) nq)
          have hbq := below_drewN hbz nq
          clear hPx hbz r0 hWx
          go_wp2
          go_roundw
          case rel => exact ⟨k + 1, now, L9, v9, by simp, by omega, by omega, hl9, hPz, hbq⟩
          case measure => (simp [intOf]; try omega)
        -- @/2
    by_cases hc1 : c = 1
    · subst hc1
      cases hq : lkT L nm with
      | none =>
        -- @3
        go_wp2_with fail
        go_quiet (first | (go_at_call 12; refine Calls.quiet_of (drop_nq B M now nm L _ (by exact hW) hL wnm hq)) | (go_at_call 13; refine Calls.quiet_of (rdrop_nq R base now nm v L _ (by exact hR) (by exact hT) hL hq)))
        have hP9 : PW (w6.drewN nq) B M R base now L v := HP1.out.later (below_drewN (Below.refl _ _) nq)
        have hA9 := hAct.drewN nq
        have hb9 := below_drewN hb1 nq
        have hl9 : L.length ≤ k + 1 := by omega
        clear hW hL hR hT hAct hb1 HP1 a0 a1 a2 hsz hAl hWl
        generalize w6.drewN nq = w9 at *
        obtain ⟨hW, hL, hR, hT, hsz⟩ := hP9
        obtain ⟨⟨a0, a1, a2⟩, -⟩ := hA9.three
        go_wp2_with fail
        refine (at_any B M now nm L w9 hW hL wnm).mono ?_
        rintro e wa ⟨rfl, rfl⟩
        go_wp2_with fail
        refine (rat_any R base now nm v L _ hR hT hL).mono ?_
        rintro e wb ⟨rfl, rfl⟩
        go_wp2_with fail
        refine (next_any B M now L _ hW hL).mono ?_
        rintro e wx ⟨rfl, hbx⟩
        have hPx : PW wx B M R base now L v := (PW.mk hW hL hR hT hsz).later hbx
        have hbz := bt hb9 hbx
        clear hW hR hT hsz hA9 hb9 hbx a0 a1 a2
        go_wp2_with fail
        refine (rnext_any R base now v L _ hPx.rb hPx.tr (by omega)).mono ?_
        rintro e wy ⟨rfl, rfl⟩
        rw [next_same]
        obtain ⟨r0, -, -, -⟩ := hPx.rb.two
        have hWx := hPx.wh
        generalize atR L nm = ar
        obtain ⟨ar1, ar2⟩ := ar
        generalize nextR L = nr
        obtain ⟨nr1, nr2⟩ := nr
        go_upto_region 25 with fail
        go_quiet ((go_at_call 22; refine Calls.quiet_of (now_q B M now L _ (by exact hWx))))
        have hPz := hPx.later (below_drewN (Below.refl _ _) nq)
        have hbq := below_drewN hbz nq
        clear hPx hbz r0 hWx
        go_wp2
        go_roundw
        case rel => exact ⟨k + 1, now, L, v, by simp, by omega, by omega, hl9, hPz, hbq⟩
        case measure => (simp [intOf]; try omega)
        -- @/3
      | some cc =>
        -- @4
        have hld := List.length_filter_le (fun e : Tm => e.1 != nm) L
        go_wp2_with fail
        go_region_held3 (fun W => W.cell? ⟨Ab, 1, none⟩ = some (.int .i64 nm)) (first | exact a1 | exact b1 | exact d1)
         (first
          | (go_at_call 12; refine (drop_s B M now nm cc L _ (by exact hW) hL wnm hq).mono ?_; rintro e w7 ⟨rfl, hW7, ht7'⟩; have ht7 : Turn (fun k => k = M) w6 w7 := (by first | exact ht7' | exact ht7'.undrew | exact ht7'.undrew.undrew); have hR7 := hR.turn ht7 hRM; have hT7 := hT.turn ht7 (fun j hj _ e => by omega); have hA7 := hAct.turn ht7 (by omega); have hb7 : Bel w.heap.size w w7 := bel_turn hb1 ht7 (fun j hj e => by omega) (Nat.le_refl _); have hs7 : base ≤ w7.heap.size := Nat.le_trans hsz ht7.size; obtain ⟨⟨b0, b1, b2⟩, -⟩ := hA7.three)
          | (go_at_call 13; refine (rdrop_s R base now nm cc v L _ (by exact hR7) (by exact hT7) hL hR3 (by first | exact hs7 | (show base ≤ w7.heap.size; exact hs7)) hq).mono ?_; rintro e w9 ⟨rfl, v9, hR9, hT9, ht9'⟩; have ht9 : Turn (fun k => k = R) w7 w9 := (by first | exact ht9' | exact ht9'.undrew | exact ht9'.undrew.undrew); obtain ⟨⟨d0, d1, d2⟩, -⟩ := (hA7.turn ht9 (by omega)).three))
        all_goals
          have hP9 : PW w9 B M R base now (delT L nm) v9 := ⟨hW7.turn ht9 (fun e => hRB e.symm) (fun e => hRM e.symm), hL.del nm, hR9, hT9, Nat.le_trans hs7 ht9.size⟩
          have hA9 := hA7.turn ht9 (by omega)
          have hb9 : Bel w.heap.size w w9 := bel_turn hb7 ht9 (fun j hj e => by omega) (Nat.le_refl _)
          have hl9 : (delT L nm).length ≤ k + 1 := by unfold delT; omega
          clear hW hL hR hT hAct hb1 HP1 a0 a1 a2 hsz hAl hWl hW7 hR7 hT7 hA7 hb7 hs7 hR9 hT9 ht9 ht7 ht9' ht7' b0 b1 b2 hld hq
          generalize delT L nm = L9 at *
          obtain ⟨hW, hL, hR, hT, hsz⟩ := hP9
          obtain ⟨⟨a0, a1, a2⟩, -⟩ := hA9.three
          go_wp2_with fail
          refine (at_any B M now nm L9 w9 hW hL wnm).mono ?_
          rintro e wa ⟨rfl, rfl⟩
          go_wp2_with fail
          refine (rat_any R base now nm v9 L9 _ hR hT hL).mono ?_
          rintro e wb ⟨rfl, rfl⟩
          go_wp2_with fail
          refine (next_any B M now L9 _ hW hL).mono ?_
          rintro e wx ⟨rfl, hbx⟩
          have hPx : PW wx B M R base now L9 v9 := (PW.mk hW hL hR hT hsz).later hbx
          have hbz := bt hb9 hbx
          clear hW hR hT hsz hA9 hb9 hbx a0 a1 a2
          go_wp2_with fail
          refine (rnext_any R base now v9 L9 _ hPx.rb hPx.tr (by omega)).mono ?_
          rintro e wy ⟨rfl, rfl⟩
          rw [next_same]
          obtain ⟨r0, -, -, -⟩ := hPx.rb.two
          have hWx := hPx.wh
          generalize atR L9 nm = ar
          obtain ⟨ar1, ar2⟩ := ar
          generalize nextR L9 = nr
          obtain ⟨nr1, nr2⟩ := nr
          go_upto_region 25 with fail
          go_quiet ((go_at_call 22; refine Calls.quiet_of (now_q B M now L9 _ (by exact hWx))))
          have hPz := hPx.later (below_drewN (Below.refl _ _) nq)
          have hbq := below_drewN hbz nq
          clear hPx hbz r0 hWx
          go_wp2
          go_roundw
          case rel => exact ⟨k + 1, now, L9, v9, by simp, by omega, by omega, hl9, hPz, hbq⟩
          case measure => (simp [intOf]; try omega)
        -- @/4
    obtain rfl : c = 2 := by omega
    clear hc0 hc1
    cases hok : goOk now at_ with
    | false =>
      -- @5
      go_wp2_with fail
      refine (go_f B M now at_ L w6 hW hok).mono ?_
      rintro e w7 ⟨rfl, rfl⟩
      go_wp2_with fail
      refine (rgo_f R now at_ v w7 hR hok).mono ?_
      rintro e w8 ⟨rfl, rfl⟩
      go_wp2_with fail
      refine (same_any none 0 none 0 [] w8 (by decide) (Or.inl rfl) (Or.inl rfl)).mono ?_
      rintro e w9 ⟨rfl, hb9'⟩
      go_wp2_with fail
      refine (spoil_any w9.heap.size (.slice none 0 0) [] w9 (Ints.nil _ _) (by decide)).mono ?_
      rintro e w10 ⟨rfl, ht10⟩
      have hb10 : Below w9.heap.size w9 w10 := ht10.below (Nat.le_refl _) (fun k hk h => by cases h)
      have hbb := bt hb9' hb10
      have hP9 := HP1.out.later hbb
      have hA9 := hAct.later hbb
      have hb9 := bt hb1 hbb
      have hl9 : L.length ≤ k + 1 := by omega
      clear hW hL hR hT hAct hb1 HP1 a0 a1 a2 hsz hAl hWl hb9' hb10 hbb ht10
      obtain ⟨w99, hw99⟩ : ∃ x, x = w10 := ⟨w10, rfl⟩
      rw [← hw99] at hP9 hA9 hb9 ⊢
      clear hw99
      obtain ⟨hW, hL, hR, hT, hsz⟩ := hP9
      obtain ⟨⟨a0, a1, a2⟩, -⟩ := hA9.three
      go_wp2_with fail
      refine (at_any B M now nm L w99 hW hL wnm).mono ?_
      rintro e wa ⟨rfl, rfl⟩
      go_wp2_with fail
      refine (rat_any R base now nm v L _ hR hT hL).mono ?_
      rintro e wb ⟨rfl, rfl⟩
      go_wp2_with fail
      refine (next_any B M now L _ hW hL).mono ?_
      rintro e wx ⟨rfl, hbx⟩
      have hPx : PW wx B M R base now L v := (PW.mk hW hL hR hT hsz).later hbx
      have hbz := bt hb9 hbx
      clear hW hR hT hsz hA9 hb9 hbx a0 a1 a2
      go_wp2_with fail
      refine (rnext_any R base now v L _ hPx.rb hPx.tr (by omega)).mono ?_
      rintro e wy ⟨rfl, rfl⟩
      rw [next_same]
      obtain ⟨r0, -, -, -⟩ := hPx.rb.two
      have hWx := hPx.wh
      generalize atR L nm = ar
      obtain ⟨ar1, ar2⟩ := ar
      generalize nextR L = nr
      obtain ⟨nr1, nr2⟩ := nr
      go_upto_region 25 with fail
      go_quiet ((go_at_call 22; refine Calls.quiet_of (now_q B M now L _ (by exact hWx))))
      have hPz := hPx.later (below_drewN (Below.refl _ _) nq)
      have hbq := below_drewN hbz nq
      clear hPx hbz r0 hWx
      go_wp2
      go_roundw
      case rel => exact ⟨k + 1, now, L, v, by simp, by omega, by omega, hl9, hPz, hbq⟩
      case measure => (simp [intOf]; try omega)
      -- @/5
    | true =>
      -- @6
      go_wp2_with fail
      refine (go_full B M now at_ L w6 hW hL hok).mono ?_
      rintro e w7 ⟨u7, rfl, hI7, hW7, ht7⟩
      have hR7 := hR.turn ht7 (by omega)
      have hT7 := hT.turn ht7 (fun j hj _ e => by omega)
      have hA7 := hAct.turn ht7 (by omega)
      have hb7 : Bel w.heap.size w w7 := bel_turn hb1 ht7 (fun j hj e => by omega) (Nat.le_refl _)
      have hs7 : base ≤ w7.heap.size := Nat.le_trans hsz ht7.size
      obtain ⟨⟨b0, b1, b2⟩, -⟩ := hA7.three
      obtain ⟨au, cu, rfl, -⟩ := hI7.row
      go_wp2_with fail
      refine (rgo_t R base now at_ v L w7 hR7 hT7 hL hR3 hs7 hok).mono ?_
      rintro e w8 ⟨u8, v8, rfl, hI8, hR8, hX8, ht8⟩
      have hT6 := hX8 w6 hT
      have hI7' := hI7.turn ht8 (fun j hj e => by omega)
      have hW8 := hW7.turn ht8 (fun e => hRB e.symm) (fun e => hRM e.symm)
      have hA8 := hA7.turn ht8 (by omega)
      have hb8 : Bel w.heap.size w w8 := bel_turn hb7 ht8 (fun j hj e => by omega) (Nat.le_refl _)
      obtain ⟨au8, cu8, rfl, hrow8⟩ := hI8.row
      have hrow7 : Row w8 au (dueL at_ L) := row_of hI7'
      have hdl := due_len at_ L
      have hL9 : WL (restL at_ L) := hL.part _
      have hl9 : (restL at_ L).length ≤ k + 1 := by have := List.length_filter_le (fun e : Tm => !decide (e.2 ≤ at_)) L; unfold restL; omega
      have hlt7 := hI7.lt
      have hge7 := own_ge hI7
      have hT68 : Turn (fun k => k = B ∨ k = M ∨ k = R) w6 w8 := (ht7.mono (fun k h => by omega)).trans (ht8.mono (fun k h => by omega))
      have hzl : (dueL at_ L).length < 1000000 := by omega
      clear hW hL hR hT hAct hb1 HP1 a0 a1 a2 hR7 hT7 hA7 hb7 hs7 hI7 hI8 hX8 hW7 ht7 ht8 b0 b1 b2 hdl
      generalize dueL at_ L = zs at *
      generalize restL at_ L = L9 at *
      go_wp2_with fail
      refine (same_any au cu au8 cu8 zs w8 (by omega) hrow7 hrow8).mono ?_
      rintro e w9 ⟨rfl, hb9'⟩
      have hI9 := hI7'.later hb9'
      go_wp2_with fail
      refine (spoil_any w6.heap.size _ zs w9 hI9 hzl).mono ?_
      rintro e w10 ⟨rfl, ht10⟩
      have hT610 : Turn (fun k => (k = B ∨ k = M ∨ k = R) ∨ w6.heap.size ≤ k) w6 w10 := ((hT68.later hb9').mono (fun k h => Or.inl h)).trans (ht10.mono (fun k h => Or.inr (hge7 k h)))
      have hP9 : PW w10 B M R base at_ L9 v8 := ⟨(hW8.later hb9').turn ht10 (fun e => by have := hge7 _ e; omega) (fun e => by have := hge7 _ e; omega), hL9, (hR8.later hb9').turn ht10 (fun e => by have := hge7 _ e; omega), hT6.turn hT610 (fun j hj hj2 e => by omega), Nat.le_trans hsz hT610.size⟩
      have hA9 := (hA8.later hb9').turn ht10 (fun e => by have := hge7 _ e; omega)
      have hb9 : Bel w.heap.size w w10 := bel_turn (bt hb8 hb9') ht10 (fun j hj e => by have := hge7 _ e; omega) (Nat.le_refl _)
      clear hW8 hR8 hT6 hT68 hT610 hA8 hb8 hI9 hI7' hrow7 hrow8 hb9' ht10 hlt7 hge7 hL9 hsz hAl hWl
      obtain ⟨w99, hw99⟩ : ∃ x, x = w10 := ⟨w10, rfl⟩
      rw [← hw99] at hP9 hA9 hb9 ⊢
      clear hw99
      obtain ⟨hW, hL, hR, hT, hsz⟩ := hP9
      obtain ⟨⟨a0, a1, a2⟩, -⟩ := hA9.three
      go_wp2_with fail
      refine (at_any B M at_ nm L9 w99 hW hL wnm).mono ?_
      rintro e wa ⟨rfl, rfl⟩
      go_wp2_with fail
      refine (rat_any R base at_ nm v8 L9 _ hR hT hL).mono ?_
      rintro e wb ⟨rfl, rfl⟩
      go_wp2_with fail
      refine (next_any B M at_ L9 _ hW hL).mono ?_
      rintro e wx ⟨rfl, hbx⟩
      have hPx : PW wx B M R base at_ L9 v8 := (PW.mk hW hL hR hT hsz).later hbx
      have hbz := bt hb9 hbx
      clear hW hR hT hsz hA9 hb9 hbx a0 a1 a2
      go_wp2_with fail
      refine (rnext_any R base at_ v8 L9 _ hPx.rb hPx.tr (by omega)).mono ?_
      rintro e wy ⟨rfl, rfl⟩
      rw [next_same]
      obtain ⟨r0, -, -, -⟩ := hPx.rb.two
      have hWx := hPx.wh
      generalize atR L9 nm = ar
      obtain ⟨ar1, ar2⟩ := ar
      generalize nextR L9 = nr
      obtain ⟨nr1, nr2⟩ := nr
      go_upto_region 25 with fail
      go_quiet ((go_at_call 22; refine Calls.quiet_of (now_q B M at_ L9 _ (by exact hWx))))
      have hPz := hPx.later (below_drewN (Below.refl _ _) nq)
      have hbq := below_drewN hbz nq
      clear hPx hbz r0 hWx
      go_wp2
      go_roundw
      case rel => exact ⟨k + 1, at_, L9, v8, by simp, by omega, by omega, hl9, hPz, hbq⟩
      case measure => (simp [intOf]; try omega)
      -- @/6
end Go.Proofs.Ytbdloehdhdifpaa
