/- Take. -/
import Derived.Test.YtcjhniehbafhpaaFq
import Derived.Test.YtcjhniehbafhpaaFr
namespace Go.Proofs.Ytcjhniehbafhpaa
open Go.RowKit Go.Maps
set_option maxRecDepth 100000
set_option linter.unusedVariables false
set_option linter.unusedSimpArgs false

def Pk.may (p : Pk) : Bool := mayP p.f p.t p.tl p.pr p.id p.fr p.mo p.op.size p.da.size
theorem may_fine {p : Pk} (h : p.may = true) : p.Fine := by
  obtain ⟨-, -, -, -, -, ⟨h1, h2⟩, -, h3, -, h4, h5⟩ := mayP_q h
  exact ⟨h1, h2, by omega, by omega⟩
theorem may_wf {p : Pk} (h : p.may = true) : (mk p).wf := by
  obtain ⟨⟨a1, a2⟩, ⟨b1, b2⟩, -, ⟨c1, c2⟩, ⟨d1, d2⟩, -⟩ := mayP_q h
  exact ⟨WalkArith.wf_i64 (by show _ ∧ _; exact ⟨by show _ ≤ p.f; omega, by show p.f ≤ _; omega⟩), WalkArith.wf_i64 (by show _ ∧ _; exact ⟨by show _ ≤ p.t; omega, by show p.t ≤ _; omega⟩), WalkArith.wf_i64 (by show _ ∧ _; exact ⟨by show _ ≤ p.pr; omega, by show p.pr ≤ _; omega⟩), WalkArith.wf_i64 (by show _ ∧ _; exact ⟨by show _ ≤ p.id; omega, by show p.id ≤ _; omega⟩)⟩
/-- What Take leaves: the tick moved on, then what lay left, then its answer. -/
def TP (w w' : World) (R B M : Nat) (ro pa now tu : Int) (l : List Pile) (Φ : World → World → Prop) : Prop := ∃ W W', BX W R B M ro pa now tu l ∧ Turn (fun k => k = B) w W ∧ w.heap.size + 1 < W.heap.size ∧ Φ W W' ∧ Turn (fun k => k = w.heap.size + 1) W' w'
set_option maxHeartbeats 4000000 in
theorem takeW (p : Pk) (hmay : p.may = true) (w : World) (R B M : Nat) (ro pa la tu : Int) (l : List Pile) (hBX : BX w R B M ro pa la tu l) (now : Int) (hn1 : la ≤ now) (hn2 : now ≤ 1099511627776) (hwh : wholeB p.fr p.mo = true) :
    Calls Try.prog 13 #[.pointer (some ⟨B, 0, none⟩), .agg #[.int .i64 p.f, .int .i64 p.t, .int .i64 p.tl, .int .i64 p.pr, .int .i64 p.id, .int .i64 p.fr, .bool p.mo, .bool p.dn, .string p.op, .string p.da], .int .i64 now] w fun e w' => e = .returned (.tuple #[.agg #[.int .i64 p.f, .int .i64 p.t, .int .i64 p.tl, .int .i64 p.pr, .int .i64 p.id, .int .i64 p.fr, .bool p.mo, .bool p.dn, .string p.op, .string p.da], .bool true, .int .i64 0]) ∧ TP w w' R B M ro pa now tu l (fun W W' => W' = W) := by
  have hp := may_fine hmay
  have ho : p.op.size ≤ 1125899906842624 := by have := hp.ol; omega
  have hd : p.da.size ≤ 1125899906842624 := by have := hp.dl; omega
  have hPb := (At.box w #[.int .i64 p.f, .int .i64 p.t, .int .i64 p.tl, .int .i64 p.pr, .int .i64 p.id, .int .i64 p.fr, .bool p.mo, .bool p.dn, .string p.op, .string p.da] 32).later (bel1 _ (.cells #[.int .i64 0, .int .i64 0, .int .i64 0, .int .i64 0, .int .i64 0, .int .i64 0, .bool false, .bool false, .string ⟨#[]⟩, .string ⟨#[]⟩] 32))
  have hZb := At.box2 w (.cells #[.int .i64 p.f, .int .i64 p.t, .int .i64 p.tl, .int .i64 p.pr, .int .i64 p.id, .int .i64 p.fr, .bool p.mo, .bool p.dn, .string p.op, .string p.da] 32) #[.int .i64 0, .int .i64 0, .int .i64 0, .int .i64 0, .int .i64 0, .int .i64 0, .bool false, .bool false, .string ⟨#[]⟩, .string ⟨#[]⟩] 32
  have hl0 := bt (bel1 w (.cells #[.int .i64 p.f, .int .i64 p.t, .int .i64 p.tl, .int .i64 p.pr, .int .i64 p.id, .int .i64 p.fr, .bool p.mo, .bool p.dn, .string p.op, .string p.da] 32)) (bel1 _ (.cells #[.int .i64 0, .int .i64 0, .int .i64 0, .int .i64 0, .int .i64 0, .int .i64 0, .bool false, .bool false, .string ⟨#[]⟩, .string ⟨#[]⟩] 32))
  have hB0 := hBX.later hl0
  have hbR := hBX.bR
  have hRw := hBX.rw'
  clear hBX
  go_enter Try.func13, Try.ntmps13
  go_upto_region 1 with fail
  generalize (w.alloc (.cells #[.int .i64 p.f, .int .i64 p.t, .int .i64 p.tl, .int .i64 p.pr, .int .i64 p.id, .int .i64 p.fr, .bool p.mo, .bool p.dn, .string p.op, .string p.da] 32)).alloc (.cells #[.int .i64 0, .int .i64 0, .int .i64 0, .int .i64 0, .int .i64 0, .int .i64 0, .bool false, .bool false, .string ⟨#[]⟩, .string ⟨#[]⟩] 32) = W0 at *
  go_wp2_with (first | (refine wpList_load_at rfl 32 _ rfl _ w.heap.size #[.int .i64 p.f, .int .i64 p.t, .int .i64 p.tl, .int .i64 p.pr, .int .i64 p.id, .int .i64 p.fr, .bool p.mo, .bool p.dn, .string p.op, .string p.da] _ rfl hPb Try.underlying32 (by kernel_rfl) ?_) | fail)
  refine (chk_t (dn := p.dn) hmay _ ho hd).mono ?_
  rintro e w1 ⟨rfl, l1⟩
  replace hPb := hPb.later l1
  replace hZb := hZb.later l1
  replace hB0 := hB0.later l1
  replace hl0 := bt hl0 l1
  go_wp2_with fail
  refine (move_any hB0 now hn1 hn2).mono ?_
  rintro e w2 ⟨rfl, hB2, ht2⟩
  have hP2 := hPb.turn ht2 (by omega)
  have hZ2 := hZb.turn ht2 (by omega)
  have htt : Turn (fun k => k = B) w w2 := (Turn.of_below hl0).trans ht2
  clear hPb hZb hB0 hl0 ht2 l1
  have hwc := whl_any p.f p.t p.tl p.pr p.id p.fr p.mo p.dn p.op p.da w2
  rw [hwh] at hwc
  go_wp2_with (first | (refine wpList_load_at rfl 32 _ rfl _ w.heap.size #[.int .i64 p.f, .int .i64 p.t, .int .i64 p.tl, .int .i64 p.pr, .int .i64 p.id, .int .i64 p.fr, .bool p.mo, .bool p.dn, .string p.op, .string p.da] _ rfl hP2 Try.underlying32 (by kernel_rfl) ?_) | fail)
  refine hwc.mono ?_
  rintro e w3 ⟨rfl, l3⟩
  clear hwc
  replace hP2 := hP2.later l3
  replace hZ2 := hZ2.later l3
  replace hB2 := hB2.later l3
  replace htt := htt.later l3
  have hs3 := hZ2.1
  clear l3
  have hone := oneQ p
  go_wp2_with (first
    | (refine wpList_load_at rfl 32 _ rfl _ w.heap.size #[.int .i64 p.f, .int .i64 p.t, .int .i64 p.tl, .int .i64 p.pr, .int .i64 p.id, .int .i64 p.fr, .bool p.mo, .bool p.dn, .string p.op, .string p.da] _ rfl hP2 Try.underlying32 (by kernel_rfl) ?_)
    | (refine wpList_store_at rfl 32 _ _ rfl _ (w.heap.size + 1) #[.int .i64 0, .int .i64 0, .int .i64 0, .int .i64 0, .int .i64 0, .int .i64 0, .bool false, .bool false, .string ⟨#[]⟩, .string ⟨#[]⟩] #[.int .i64 p.f, .int .i64 p.t, .int .i64 p.tl, .int .i64 p.pr, .int .i64 p.id, .int .i64 p.fr, .bool p.mo, .bool p.dn, .string p.op, .string p.da] rfl rfl hZ2 rfl (by kernel_rfl) hone ?_; intro w5 hZ5 ht5))
  have r0 := (hZ5.2 0 _ rfl).1
  have r1 := (hZ5.2 1 _ rfl).1
  have r2 := (hZ5.2 2 _ rfl).1
  have r3 := (hZ5.2 3 _ rfl).1
  have r4 := (hZ5.2 4 _ rfl).1
  have r5 := (hZ5.2 5 _ rfl).1
  have r6 := (hZ5.2 6 _ rfl).1
  have r7 := (hZ5.2 7 _ rfl).1
  have r8 := (hZ5.2 8 _ rfl).1
  have r9 := (hZ5.2 9 _ rfl).1
  exact bodyPost_ret (v := .tuple #[.agg #[.int .i64 p.f, .int .i64 p.t, .int .i64 p.tl, .int .i64 p.pr, .int .i64 p.id, .int .i64 p.fr, .bool p.mo, .bool p.dn, .string p.op, .string p.da], .bool true, .int .i64 0]) (by simp [results, Try.results13, go_sem, r0, r1, r2, r3, r4, r5, r6, r7, r8, r9]) rfl ⟨rfl, w3, w3, hB2, htt, hs3, rfl, ht5⟩
set_option maxHeartbeats 4000000 in
theorem take_no (p : Pk) (hmay : p.may = true) (w : World) (R B M : Nat) (ro pa la tu : Int) (l : List Pile) (hBX : BX w R B M ro pa la tu l) (now : Int) (hn1 : la ≤ now) (hn2 : now ≤ 1099511627776) (hwh : wholeB p.fr p.mo = false) (Φ : World → World → Prop) (hlay : ∀ W, BX W R B M ro pa now tu l → Calls Try.prog 23 #[.pointer (some ⟨B, 0, none⟩), .agg #[.int .i64 p.f, .int .i64 p.t, .int .i64 p.tl, .int .i64 p.pr, .int .i64 p.id, .int .i64 p.fr, .bool p.mo, .bool p.dn, .string p.op, .string p.da]] W fun e w' => e = .returned (.tuple #[.agg #[.int .i64 0, .int .i64 0, .int .i64 0, .int .i64 0, .int .i64 0, .int .i64 0, .bool false, .bool false, .string ⟨#[]⟩, .string ⟨#[]⟩], .bool false, .int .i64 0]) ∧ Φ W w') (hΦ : ∀ W W', BX W R B M ro pa now tu l → Φ W W' → Turn (FL B M l) W W') :
    Calls Try.prog 13 #[.pointer (some ⟨B, 0, none⟩), .agg #[.int .i64 p.f, .int .i64 p.t, .int .i64 p.tl, .int .i64 p.pr, .int .i64 p.id, .int .i64 p.fr, .bool p.mo, .bool p.dn, .string p.op, .string p.da], .int .i64 now] w fun e w' => e = .returned (.tuple #[.agg #[.int .i64 0, .int .i64 0, .int .i64 0, .int .i64 0, .int .i64 0, .int .i64 0, .bool false, .bool false, .string ⟨#[]⟩, .string ⟨#[]⟩], .bool false, .int .i64 0]) ∧ TP w w' R B M ro pa now tu l Φ := by
  have hrl : ∀ x ∈ l, ∀ k, x.v.ownBlock = some k → k < w.heap.size := fun x hx k hk => (hBX.ok x hx).row.lt k hk
  have hmR := hBX.mR
  have HRL : Hid (∀ x ∈ l, ∀ k, x.v.ownBlock = some k → k < w.heap.size) := hrl
  clear hrl
  have HL : Hid (∀ W, BX W R B M ro pa now tu l → Calls Try.prog 23 #[.pointer (some ⟨B, 0, none⟩), .agg #[.int .i64 p.f, .int .i64 p.t, .int .i64 p.tl, .int .i64 p.pr, .int .i64 p.id, .int .i64 p.fr, .bool p.mo, .bool p.dn, .string p.op, .string p.da]] W fun e w' => e = .returned (.tuple #[.agg #[.int .i64 0, .int .i64 0, .int .i64 0, .int .i64 0, .int .i64 0, .int .i64 0, .bool false, .bool false, .string ⟨#[]⟩, .string ⟨#[]⟩], .bool false, .int .i64 0]) ∧ Φ W w') := hlay
  have HP : Hid (∀ W W', BX W R B M ro pa now tu l → Φ W W' → Turn (FL B M l) W W') := hΦ
  clear hlay hΦ
  have hp := may_fine hmay
  have ho : p.op.size ≤ 1125899906842624 := by have := hp.ol; omega
  have hd : p.da.size ≤ 1125899906842624 := by have := hp.dl; omega
  have hPb := (At.box w #[.int .i64 p.f, .int .i64 p.t, .int .i64 p.tl, .int .i64 p.pr, .int .i64 p.id, .int .i64 p.fr, .bool p.mo, .bool p.dn, .string p.op, .string p.da] 32).later (bel1 _ (.cells #[.int .i64 0, .int .i64 0, .int .i64 0, .int .i64 0, .int .i64 0, .int .i64 0, .bool false, .bool false, .string ⟨#[]⟩, .string ⟨#[]⟩] 32))
  have hZb := At.box2 w (.cells #[.int .i64 p.f, .int .i64 p.t, .int .i64 p.tl, .int .i64 p.pr, .int .i64 p.id, .int .i64 p.fr, .bool p.mo, .bool p.dn, .string p.op, .string p.da] 32) #[.int .i64 0, .int .i64 0, .int .i64 0, .int .i64 0, .int .i64 0, .int .i64 0, .bool false, .bool false, .string ⟨#[]⟩, .string ⟨#[]⟩] 32
  have hl0 := bt (bel1 w (.cells #[.int .i64 p.f, .int .i64 p.t, .int .i64 p.tl, .int .i64 p.pr, .int .i64 p.id, .int .i64 p.fr, .bool p.mo, .bool p.dn, .string p.op, .string p.da] 32)) (bel1 _ (.cells #[.int .i64 0, .int .i64 0, .int .i64 0, .int .i64 0, .int .i64 0, .int .i64 0, .bool false, .bool false, .string ⟨#[]⟩, .string ⟨#[]⟩] 32))
  have hB0 := hBX.later hl0
  have hbR := hBX.bR
  have hRw := hBX.rw'
  clear hBX
  go_enter Try.func13, Try.ntmps13
  go_upto_region 1 with fail
  generalize (w.alloc (.cells #[.int .i64 p.f, .int .i64 p.t, .int .i64 p.tl, .int .i64 p.pr, .int .i64 p.id, .int .i64 p.fr, .bool p.mo, .bool p.dn, .string p.op, .string p.da] 32)).alloc (.cells #[.int .i64 0, .int .i64 0, .int .i64 0, .int .i64 0, .int .i64 0, .int .i64 0, .bool false, .bool false, .string ⟨#[]⟩, .string ⟨#[]⟩] 32) = W0 at *
  go_wp2_with (first | (refine wpList_load_at rfl 32 _ rfl _ w.heap.size #[.int .i64 p.f, .int .i64 p.t, .int .i64 p.tl, .int .i64 p.pr, .int .i64 p.id, .int .i64 p.fr, .bool p.mo, .bool p.dn, .string p.op, .string p.da] _ rfl hPb Try.underlying32 (by kernel_rfl) ?_) | fail)
  refine (chk_t (dn := p.dn) hmay _ ho hd).mono ?_
  rintro e w1 ⟨rfl, l1⟩
  replace hPb := hPb.later l1
  replace hZb := hZb.later l1
  replace hB0 := hB0.later l1
  replace hl0 := bt hl0 l1
  go_wp2_with fail
  refine (move_any hB0 now hn1 hn2).mono ?_
  rintro e w2 ⟨rfl, hB2, ht2⟩
  have hP2 := hPb.turn ht2 (by omega)
  have hZ2 := hZb.turn ht2 (by omega)
  have htt : Turn (fun k => k = B) w w2 := (Turn.of_below hl0).trans ht2
  clear hPb hZb hB0 hl0 ht2 l1
  have hwc := whl_any p.f p.t p.tl p.pr p.id p.fr p.mo p.dn p.op p.da w2
  rw [hwh] at hwc
  go_wp2_with (first | (refine wpList_load_at rfl 32 _ rfl _ w.heap.size #[.int .i64 p.f, .int .i64 p.t, .int .i64 p.tl, .int .i64 p.pr, .int .i64 p.id, .int .i64 p.fr, .bool p.mo, .bool p.dn, .string p.op, .string p.da] _ rfl hP2 Try.underlying32 (by kernel_rfl) ?_) | fail)
  refine hwc.mono ?_
  rintro e w3 ⟨rfl, l3⟩
  clear hwc
  replace hP2 := hP2.later l3
  replace hZ2 := hZ2.later l3
  replace hB2 := hB2.later l3
  replace htt := htt.later l3
  have hs3 := hZ2.1
  clear l3
  have hcon := HL.out w3 hB2
  go_wp2_with (first | (refine wpList_load_at rfl 32 _ rfl _ w.heap.size #[.int .i64 p.f, .int .i64 p.t, .int .i64 p.tl, .int .i64 p.pr, .int .i64 p.id, .int .i64 p.fr, .bool p.mo, .bool p.dn, .string p.op, .string p.da] _ rfl hP2 Try.underlying32 (by kernel_rfl) ?_) | fail)
  refine hcon.mono ?_
  rintro e w4 ⟨rfl, hφ⟩
  have hZ4 := hZ2.turn (HP.out _ _ hB2 hφ) (fun e => by
    rcases e with e | e | ⟨x, hx, e⟩
    · omega
    · omega
    · have := HRL.out x hx _ e; omega)
  have HF : Hid (Φ w3 w4) := hφ
  clear hcon hφ
  go_wp2_with (first
    | (refine wpList_store_at rfl 32 _ _ rfl _ (w.heap.size + 1) #[.int .i64 0, .int .i64 0, .int .i64 0, .int .i64 0, .int .i64 0, .int .i64 0, .bool false, .bool false, .string ⟨#[]⟩, .string ⟨#[]⟩] #[.int .i64 0, .int .i64 0, .int .i64 0, .int .i64 0, .int .i64 0, .int .i64 0, .bool false, .bool false, .string ⟨#[]⟩, .string ⟨#[]⟩] rfl rfl hZ4 rfl (by kernel_rfl) (by simp [Value.oneCell']) ?_; intro w5 hZ5 ht5))
  have r0 := (hZ5.2 0 _ rfl).1
  have r1 := (hZ5.2 1 _ rfl).1
  have r2 := (hZ5.2 2 _ rfl).1
  have r3 := (hZ5.2 3 _ rfl).1
  have r4 := (hZ5.2 4 _ rfl).1
  have r5 := (hZ5.2 5 _ rfl).1
  have r6 := (hZ5.2 6 _ rfl).1
  have r7 := (hZ5.2 7 _ rfl).1
  have r8 := (hZ5.2 8 _ rfl).1
  have r9 := (hZ5.2 9 _ rfl).1
  exact bodyPost_ret (v := .tuple #[.agg #[.int .i64 0, .int .i64 0, .int .i64 0, .int .i64 0, .int .i64 0, .int .i64 0, .bool false, .bool false, .string ⟨#[]⟩, .string ⟨#[]⟩], .bool false, .int .i64 0]) (by simp [results, Try.results13, go_sem, r0, r1, r2, r3, r4, r5, r6, r7, r8, r9]) rfl ⟨rfl, w3, w4, hB2, htt, hs3, HF.out, ht5⟩
set_option maxHeartbeats 4000000 in
theorem take_yes (p : Pk) (hmay : p.may = true) (w : World) (R B M : Nat) (ro pa la tu : Int) (l : List Pile) (hBX : BX w R B M ro pa la tu l) (now : Int) (hn1 : la ≤ now) (hn2 : now ≤ 1099511627776) (q : Pk) (ds : List UInt8) (hwh : wholeB p.fr p.mo = false) (Φ : World → World → Prop) (hlay : ∀ W, BX W R B M ro pa now tu l → Calls Try.prog 23 #[.pointer (some ⟨B, 0, none⟩), .agg #[.int .i64 p.f, .int .i64 p.t, .int .i64 p.tl, .int .i64 p.pr, .int .i64 p.id, .int .i64 p.fr, .bool p.mo, .bool p.dn, .string p.op, .string p.da]] W fun e w' => e = .returned (.tuple #[.agg #[.int .i64 q.f, .int .i64 q.t, .int .i64 q.tl, .int .i64 q.pr, .int .i64 q.id, .int .i64 q.fr, .bool false, .bool q.dn, .string q.op, .string ⟨ds.toArray⟩], .bool true, .int .i64 0]) ∧ Φ W w') (hΦ : ∀ W W', BX W R B M ro pa now tu l → Φ W W' → Turn (FL B M l) W W') :
    Calls Try.prog 13 #[.pointer (some ⟨B, 0, none⟩), .agg #[.int .i64 p.f, .int .i64 p.t, .int .i64 p.tl, .int .i64 p.pr, .int .i64 p.id, .int .i64 p.fr, .bool p.mo, .bool p.dn, .string p.op, .string p.da], .int .i64 now] w fun e w' => e = .returned (.tuple #[.agg #[.int .i64 q.f, .int .i64 q.t, .int .i64 q.tl, .int .i64 q.pr, .int .i64 q.id, .int .i64 q.fr, .bool false, .bool q.dn, .string q.op, .string ⟨ds.toArray⟩], .bool true, .int .i64 0]) ∧ TP w w' R B M ro pa now tu l Φ := by
  have hrl : ∀ x ∈ l, ∀ k, x.v.ownBlock = some k → k < w.heap.size := fun x hx k hk => (hBX.ok x hx).row.lt k hk
  have hmR := hBX.mR
  have HRL : Hid (∀ x ∈ l, ∀ k, x.v.ownBlock = some k → k < w.heap.size) := hrl
  clear hrl
  have HL : Hid (∀ W, BX W R B M ro pa now tu l → Calls Try.prog 23 #[.pointer (some ⟨B, 0, none⟩), .agg #[.int .i64 p.f, .int .i64 p.t, .int .i64 p.tl, .int .i64 p.pr, .int .i64 p.id, .int .i64 p.fr, .bool p.mo, .bool p.dn, .string p.op, .string p.da]] W fun e w' => e = .returned (.tuple #[.agg #[.int .i64 q.f, .int .i64 q.t, .int .i64 q.tl, .int .i64 q.pr, .int .i64 q.id, .int .i64 q.fr, .bool false, .bool q.dn, .string q.op, .string ⟨ds.toArray⟩], .bool true, .int .i64 0]) ∧ Φ W w') := hlay
  have HP : Hid (∀ W W', BX W R B M ro pa now tu l → Φ W W' → Turn (FL B M l) W W') := hΦ
  clear hlay hΦ
  have hp := may_fine hmay
  have ho : p.op.size ≤ 1125899906842624 := by have := hp.ol; omega
  have hd : p.da.size ≤ 1125899906842624 := by have := hp.dl; omega
  have hPb := (At.box w #[.int .i64 p.f, .int .i64 p.t, .int .i64 p.tl, .int .i64 p.pr, .int .i64 p.id, .int .i64 p.fr, .bool p.mo, .bool p.dn, .string p.op, .string p.da] 32).later (bel1 _ (.cells #[.int .i64 0, .int .i64 0, .int .i64 0, .int .i64 0, .int .i64 0, .int .i64 0, .bool false, .bool false, .string ⟨#[]⟩, .string ⟨#[]⟩] 32))
  have hZb := At.box2 w (.cells #[.int .i64 p.f, .int .i64 p.t, .int .i64 p.tl, .int .i64 p.pr, .int .i64 p.id, .int .i64 p.fr, .bool p.mo, .bool p.dn, .string p.op, .string p.da] 32) #[.int .i64 0, .int .i64 0, .int .i64 0, .int .i64 0, .int .i64 0, .int .i64 0, .bool false, .bool false, .string ⟨#[]⟩, .string ⟨#[]⟩] 32
  have hl0 := bt (bel1 w (.cells #[.int .i64 p.f, .int .i64 p.t, .int .i64 p.tl, .int .i64 p.pr, .int .i64 p.id, .int .i64 p.fr, .bool p.mo, .bool p.dn, .string p.op, .string p.da] 32)) (bel1 _ (.cells #[.int .i64 0, .int .i64 0, .int .i64 0, .int .i64 0, .int .i64 0, .int .i64 0, .bool false, .bool false, .string ⟨#[]⟩, .string ⟨#[]⟩] 32))
  have hB0 := hBX.later hl0
  have hbR := hBX.bR
  have hRw := hBX.rw'
  clear hBX
  go_enter Try.func13, Try.ntmps13
  go_upto_region 1 with fail
  generalize (w.alloc (.cells #[.int .i64 p.f, .int .i64 p.t, .int .i64 p.tl, .int .i64 p.pr, .int .i64 p.id, .int .i64 p.fr, .bool p.mo, .bool p.dn, .string p.op, .string p.da] 32)).alloc (.cells #[.int .i64 0, .int .i64 0, .int .i64 0, .int .i64 0, .int .i64 0, .int .i64 0, .bool false, .bool false, .string ⟨#[]⟩, .string ⟨#[]⟩] 32) = W0 at *
  go_wp2_with (first | (refine wpList_load_at rfl 32 _ rfl _ w.heap.size #[.int .i64 p.f, .int .i64 p.t, .int .i64 p.tl, .int .i64 p.pr, .int .i64 p.id, .int .i64 p.fr, .bool p.mo, .bool p.dn, .string p.op, .string p.da] _ rfl hPb Try.underlying32 (by kernel_rfl) ?_) | fail)
  refine (chk_t (dn := p.dn) hmay _ ho hd).mono ?_
  rintro e w1 ⟨rfl, l1⟩
  replace hPb := hPb.later l1
  replace hZb := hZb.later l1
  replace hB0 := hB0.later l1
  replace hl0 := bt hl0 l1
  go_wp2_with fail
  refine (move_any hB0 now hn1 hn2).mono ?_
  rintro e w2 ⟨rfl, hB2, ht2⟩
  have hP2 := hPb.turn ht2 (by omega)
  have hZ2 := hZb.turn ht2 (by omega)
  have htt : Turn (fun k => k = B) w w2 := (Turn.of_below hl0).trans ht2
  clear hPb hZb hB0 hl0 ht2 l1
  have hwc := whl_any p.f p.t p.tl p.pr p.id p.fr p.mo p.dn p.op p.da w2
  rw [hwh] at hwc
  go_wp2_with (first | (refine wpList_load_at rfl 32 _ rfl _ w.heap.size #[.int .i64 p.f, .int .i64 p.t, .int .i64 p.tl, .int .i64 p.pr, .int .i64 p.id, .int .i64 p.fr, .bool p.mo, .bool p.dn, .string p.op, .string p.da] _ rfl hP2 Try.underlying32 (by kernel_rfl) ?_) | fail)
  refine hwc.mono ?_
  rintro e w3 ⟨rfl, l3⟩
  clear hwc
  replace hP2 := hP2.later l3
  replace hZ2 := hZ2.later l3
  replace hB2 := hB2.later l3
  replace htt := htt.later l3
  have hs3 := hZ2.1
  clear l3
  have hcon := HL.out w3 hB2
  go_wp2_with (first | (refine wpList_load_at rfl 32 _ rfl _ w.heap.size #[.int .i64 p.f, .int .i64 p.t, .int .i64 p.tl, .int .i64 p.pr, .int .i64 p.id, .int .i64 p.fr, .bool p.mo, .bool p.dn, .string p.op, .string p.da] _ rfl hP2 Try.underlying32 (by kernel_rfl) ?_) | fail)
  refine hcon.mono ?_
  rintro e w4 ⟨rfl, hφ⟩
  have hZ4 := hZ2.turn (HP.out _ _ hB2 hφ) (fun e => by
    rcases e with e | e | ⟨x, hx, e⟩
    · omega
    · omega
    · have := HRL.out x hx _ e; omega)
  have HF : Hid (Φ w3 w4) := hφ
  clear hcon hφ
  go_wp2_with (first
    | (refine wpList_store_at rfl 32 _ _ rfl _ (w.heap.size + 1) #[.int .i64 0, .int .i64 0, .int .i64 0, .int .i64 0, .int .i64 0, .int .i64 0, .bool false, .bool false, .string ⟨#[]⟩, .string ⟨#[]⟩] #[.int .i64 q.f, .int .i64 q.t, .int .i64 q.tl, .int .i64 q.pr, .int .i64 q.id, .int .i64 q.fr, .bool false, .bool q.dn, .string q.op, .string ⟨ds.toArray⟩] rfl rfl hZ4 rfl (by kernel_rfl) (by simp [Value.oneCell']) ?_; intro w5 hZ5 ht5))
  have r0 := (hZ5.2 0 _ rfl).1
  have r1 := (hZ5.2 1 _ rfl).1
  have r2 := (hZ5.2 2 _ rfl).1
  have r3 := (hZ5.2 3 _ rfl).1
  have r4 := (hZ5.2 4 _ rfl).1
  have r5 := (hZ5.2 5 _ rfl).1
  have r6 := (hZ5.2 6 _ rfl).1
  have r7 := (hZ5.2 7 _ rfl).1
  have r8 := (hZ5.2 8 _ rfl).1
  have r9 := (hZ5.2 9 _ rfl).1
  exact bodyPost_ret (v := .tuple #[.agg #[.int .i64 q.f, .int .i64 q.t, .int .i64 q.tl, .int .i64 q.pr, .int .i64 q.id, .int .i64 q.fr, .bool false, .bool q.dn, .string q.op, .string ⟨ds.toArray⟩], .bool true, .int .i64 0]) (by simp [results, Try.results13, go_sem, r0, r1, r2, r3, r4, r5, r6, r7, r8, r9]) rfl ⟨rfl, w3, w4, hB2, htt, hs3, HF.out, ht5⟩
end Go.Proofs.Ytcjhniehbafhpaa
