/- the texts Fs, Hk, Hl, Ja, in part, merged by program -/
import Derived.Test.YtcjhniehbafhpaaProg
import Derived.Test.YtcjhniehbafhpaaRows
import Derived.WalkKit
import Derived.WalkSpells
import Derived.Laws.OwnMore
import Derived.Maps.RangeWalk
import Derived.Maps.OwnSet
import Derived.Maps.Ext
import Derived.Maps.Keyed
import Derived.DeepKeys4
import Derived.WalkSmall
import Derived.Deep.Cut
import Derived.Deep.CutRange
import Derived.Deep.MidRow
import Derived.Deep.QuietTactic
import Derived.BigQuiet
import Derived.Deep.RegionWith
import Derived.OwnWalk
import Derived.Laws.CopyRow
import Derived.OrdersHeld
import Derived.Shelf.Spec.SlicesInsert
import Derived.Lib.AppendZerosOnto
import Derived.Maps.AppendAt
import Derived.Lib.Overlaps
import Derived.Shelf.Strings.BuilderK
import Derived.Laws.AppendOwn
import Derived.Laws.AppendOwnNone
import Derived.Carry
import Derived.Deep.RegionHeld3
import Derived.LoopN
import Derived.Test.YtcjhniehbafhpaaMA01
import Derived.Test.YtcjhniehbafhpaaMA02
import Derived.Test.YtcjhniehbafhpaaMA03
import Derived.Test.YtcjhniehbafhpaaMA04
import Derived.Test.YtcjhniehbafhpaaMA05
import Derived.Test.YtcjhniehbafhpaaMA06
import Derived.Test.YtcjhniehbafhpaaMA07
import Derived.Test.YtcjhniehbafhpaaMA08
namespace Go.Proofs.Ytcjhniehbafhpaa
open Go.RowKit Go.Maps
set_option maxRecDepth 100000
set_option linter.unusedVariables false
set_option linter.unusedSimpArgs false

def Pk.may (p : Pk) : Bool := mayP p.f p.t p.tl p.pr p.id p.fr p.mo p.op.size p.da.size
theorem may_fine {p : Pk} (h : p.may = true) : p.Fine := by
  obtain ⟨-, -, -, -, -, ⟨h1, h2⟩, -, h3, -, h4, h5⟩ := mayP_q h
  exact ⟨h1, h2, by omega, by omega⟩
theorem may_wf {p : Pk} (h : p.may = true) : (mk p).wf := by
  obtain ⟨⟨a1, a2⟩, ⟨b1, b2⟩, -, ⟨c1, c2⟩, ⟨d1, d2⟩, -⟩ := mayP_q h
  exact ⟨WalkArith.wf_i64 (by show _ ∧ _; exact ⟨by show _ ≤ p.f; omega, by show p.f ≤ _; omega⟩), WalkArith.wf_i64 (by show _ ∧ _; exact ⟨by show _ ≤ p.t; omega, by show p.t ≤ _; omega⟩), WalkArith.wf_i64 (by show _ ∧ _; exact ⟨by show _ ≤ p.pr; omega, by show p.pr ≤ _; omega⟩), WalkArith.wf_i64 (by show _ ∧ _; exact ⟨by show _ ≤ p.id; omega, by show p.id ≤ _; omega⟩)⟩
def TP (w w' : World) (R B M : Nat) (ro pa now tu : Int) (l : List Pile) (Φ : World → World → Prop) : Prop := ∃ W W', BX W R B M ro pa now tu l ∧ Turn (fun k => k = B) w W ∧ w.heap.size + 1 < W.heap.size ∧ Φ W W' ∧ Turn (fun k => k = w.heap.size + 1) W' w'
set_option maxHeartbeats 4000000 in
theorem takeW (p : Pk) (hmay : p.may = true) (w : World) (R B M : Nat) (ro pa la tu : Int) (l : List Pile) (hBX : BX w R B M ro pa la tu l) (now : Int) (hn1 : la ≤ now) (hn2 : now ≤ 1099511627776) (hwh : wholeB p.fr p.mo = true) :
    Calls Try.prog 13 #[.pointer (some ⟨B, 0, none⟩), .agg #[.int .i64 p.f, .int .i64 p.t, .int .i64 p.tl, .int .i64 p.pr, .int .i64 p.id, .int .i64 p.fr, .bool p.mo, .bool p.dn, .string p.op, .string p.da], .int .i64 now] w fun e w' => e = .returned (.tuple #[.agg #[.int .i64 p.f, .int .i64 p.t, .int .i64 p.tl, .int .i64 p.pr, .int .i64 p.id, .int .i64 p.fr, .bool p.mo, .bool p.dn, .string p.op, .string p.da], .bool true, .int .i64 0]) ∧ TP w w' R B M ro pa now tu l (fun W W' => W' = W) := by
  have hp := may_fine hmay
  have ho : p.op.size ≤ 1125899906842624 := by have := hp.ol; omega
  have hd : p.da.size ≤ 1125899906842624 := by have := hp.dl; omega
  have hPb := (At.box w #[.int .i64 p.f, .int .i64 p.t, .int .i64 p.tl, .int .i64 p.pr, .int .i64 p.id, .int .i64 p.fr, .bool p.mo, .bool p.dn, .string p.op, .string p.da] 32).later (bel1 _ (.cells #[.int .i64 0, .int .i64 0, .int .i64 0, .int .i64 0, .int .i64 0, .int .i64 0, .bool false, .bool false, .string ⟨#[]⟩, .string ⟨#[]⟩] 32))
  have hZb := At.box2 w (.cells #[.int .i64 p.f, .int .i64 p.t, .int .i64 p.tl, .int .i64 p.pr, .int .i64 p.id, .int .i64 p.fr, .bool p.mo, .bool p.dn, .string p.op, .string p.da] 32) #[.int .i64 0, .int .i64 0, .int .i64 0, .int .i64 0, .int .i64 0, .int .i64 0, .bool false, .bool false, .string ⟨#[]⟩, .string ⟨#[]⟩] 32
  have hl0 := bt (bel1 w (.cells #[.int .i64 p.f, .int .i64 p.t, .int .i64 p.tl, .int .i64 p.pr, .int .i64 p.id, .int .i64 p.fr, .bool p.mo, .bool p.dn, .string p.op, .string p.da] 32)) (bel1 _ (.cells #[.int .i64 0, .int .i64 0, .int .i64 0, .int .i64 0, .int .i64 0, .int .i64 0, .bool false, .bool false, .string ⟨#[]⟩, .string ⟨#[]⟩] 32))
  have hB0 := hBX.later hl0
  have hbR := hBX.bR
  have hRw := hBX.rw'
  clear hBX
  go_enter Try.func13, Try.ntmps13
  go_upto_region 1 with fail
  generalize (w.alloc (.cells #[.int .i64 p.f, .int .i64 p.t, .int .i64 p.tl, .int .i64 p.pr, .int .i64 p.id, .int .i64 p.fr, .bool p.mo, .bool p.dn, .string p.op, .string p.da] 32)).alloc (.cells #[.int .i64 0, .int .i64 0, .int .i64 0, .int .i64 0, .int .i64 0, .int .i64 0, .bool false, .bool false, .string ⟨#[]⟩, .string ⟨#[]⟩] 32) = W0 at *
  go_wp2_with (first | (refine wpList_load_at rfl 32 _ rfl _ w.heap.size #[.int .i64 p.f, .int .i64 p.t, .int .i64 p.tl, .int .i64 p.pr, .int .i64 p.id, .int .i64 p.fr, .bool p.mo, .bool p.dn, .string p.op, .string p.da] _ rfl hPb Try.underlying32 (by kernel_rfl) ?_) | fail)
  refine (chk_t (dn := p.dn) hmay _ ho hd).mono ?_
  rintro e w1 ⟨rfl, l1⟩
  replace hPb := hPb.later l1
  replace hZb := hZb.later l1
  replace hB0 := hB0.later l1
  replace hl0 := bt hl0 l1
  go_wp2_with fail
  refine (move_any hB0 now hn1 hn2).mono ?_
  rintro e w2 ⟨rfl, hB2, ht2⟩
  have hP2 := hPb.turn ht2 (by omega)
  have hZ2 := hZb.turn ht2 (by omega)
  have htt : Turn (fun k => k = B) w w2 := (Turn.of_below hl0).trans ht2
  clear hPb hZb hB0 hl0 ht2 l1
  have hwc := whl_any p.f p.t p.tl p.pr p.id p.fr p.mo p.dn p.op p.da w2
  rw [hwh] at hwc
  go_wp2_with (first | (refine wpList_load_at rfl 32 _ rfl _ w.heap.size #[.int .i64 p.f, .int .i64 p.t, .int .i64 p.tl, .int .i64 p.pr, .int .i64 p.id, .int .i64 p.fr, .bool p.mo, .bool p.dn, .string p.op, .string p.da] _ rfl hP2 Try.underlying32 (by kernel_rfl) ?_) | fail)
  refine hwc.mono ?_
  rintro e w3 ⟨rfl, l3⟩
  clear hwc
  replace hP2 := hP2.later l3
  replace hZ2 := hZ2.later l3
  replace hB2 := hB2.later l3
  replace htt := htt.later l3
  have hs3 := hZ2.1
  clear l3
  have hone := oneQ p
  go_wp2_with (first
    | (refine wpList_load_at rfl 32 _ rfl _ w.heap.size #[.int .i64 p.f, .int .i64 p.t, .int .i64 p.tl, .int .i64 p.pr, .int .i64 p.id, .int .i64 p.fr, .bool p.mo, .bool p.dn, .string p.op, .string p.da] _ rfl hP2 Try.underlying32 (by kernel_rfl) ?_)
    | (refine wpList_store_at rfl 32 _ _ rfl _ (w.heap.size + 1) #[.int .i64 0, .int .i64 0, .int .i64 0, .int .i64 0, .int .i64 0, .int .i64 0, .bool false, .bool false, .string ⟨#[]⟩, .string ⟨#[]⟩] #[.int .i64 p.f, .int .i64 p.t, .int .i64 p.tl, .int .i64 p.pr, .int .i64 p.id, .int .i64 p.fr, .bool p.mo, .bool p.dn, .string p.op, .string p.da] rfl rfl hZ2 rfl (by kernel_rfl) hone ?_; intro w5 hZ5 ht5))
  have r0 := (hZ5.2 0 _ rfl).1
  have r1 := (hZ5.2 1 _ rfl).1
  have r2 := (hZ5.2 2 _ rfl).1
  have r3 := (hZ5.2 3 _ rfl).1
  have r4 := (hZ5.2 4 _ rfl).1
  have r5 := (hZ5.2 5 _ rfl).1
  have r6 := (hZ5.2 6 _ rfl).1
  have r7 := (hZ5.2 7 _ rfl).1
  have r8 := (hZ5.2 8 _ rfl).1
  have r9 := (hZ5.2 9 _ rfl).1
  exact bodyPost_ret (v := .tuple #[.agg #[.int .i64 p.f, .int .i64 p.t, .int .i64 p.tl, .int .i64 p.pr, .int .i64 p.id, .int .i64 p.fr, .bool p.mo, .bool p.dn, .string p.op, .string p.da], .bool true, .int .i64 0]) (by simp [results, Try.results13, go_sem, r0, r1, r2, r3, r4, r5, r6, r7, r8, r9]) rfl ⟨rfl, w3, w3, hB2, htt, hs3, rfl, ht5⟩
set_option maxHeartbeats 4000000 in
theorem take_no (p : Pk) (hmay : p.may = true) (w : World) (R B M : Nat) (ro pa la tu : Int) (l : List Pile) (hBX : BX w R B M ro pa la tu l) (now : Int) (hn1 : la ≤ now) (hn2 : now ≤ 1099511627776) (hwh : wholeB p.fr p.mo = false) (Φ : World → World → Prop) (hlay : ∀ W, BX W R B M ro pa now tu l → Calls Try.prog 23 #[.pointer (some ⟨B, 0, none⟩), .agg #[.int .i64 p.f, .int .i64 p.t, .int .i64 p.tl, .int .i64 p.pr, .int .i64 p.id, .int .i64 p.fr, .bool p.mo, .bool p.dn, .string p.op, .string p.da]] W fun e w' => e = .returned (.tuple #[.agg #[.int .i64 0, .int .i64 0, .int .i64 0, .int .i64 0, .int .i64 0, .int .i64 0, .bool false, .bool false, .string ⟨#[]⟩, .string ⟨#[]⟩], .bool false, .int .i64 0]) ∧ Φ W w') (hΦ : ∀ W W', BX W R B M ro pa now tu l → Φ W W' → Turn (FL B M l) W W') :
    Calls Try.prog 13 #[.pointer (some ⟨B, 0, none⟩), .agg #[.int .i64 p.f, .int .i64 p.t, .int .i64 p.tl, .int .i64 p.pr, .int .i64 p.id, .int .i64 p.fr, .bool p.mo, .bool p.dn, .string p.op, .string p.da], .int .i64 now] w fun e w' => e = .returned (.tuple #[.agg #[.int .i64 0, .int .i64 0, .int .i64 0, .int .i64 0, .int .i64 0, .int .i64 0, .bool false, .bool false, .string ⟨#[]⟩, .string ⟨#[]⟩], .bool false, .int .i64 0]) ∧ TP w w' R B M ro pa now tu l Φ := by
  have hrl : ∀ x ∈ l, ∀ k, x.v.ownBlock = some k → k < w.heap.size := fun x hx k hk => (hBX.ok x hx).row.lt k hk
  have hmR := hBX.mR
  have HRL : Hid (∀ x ∈ l, ∀ k, x.v.ownBlock = some k → k < w.heap.size) := hrl
  clear hrl
  have HL : Hid (∀ W, BX W R B M ro pa now tu l → Calls Try.prog 23 #[.pointer (some ⟨B, 0, none⟩), .agg #[.int .i64 p.f, .int .i64 p.t, .int .i64 p.tl, .int .i64 p.pr, .int .i64 p.id, .int .i64 p.fr, .bool p.mo, .bool p.dn, .string p.op, .string p.da]] W fun e w' => e = .returned (.tuple #[.agg #[.int .i64 0, .int .i64 0, .int .i64 0, .int .i64 0, .int .i64 0, .int .i64 0, .bool false, .bool false, .string ⟨#[]⟩, .string ⟨#[]⟩], .bool false, .int .i64 0]) ∧ Φ W w') := hlay
  have HP : Hid (∀ W W', BX W R B M ro pa now tu l → Φ W W' → Turn (FL B M l) W W') := hΦ
  clear hlay hΦ
  have hp := may_fine hmay
  have ho : p.op.size ≤ 1125899906842624 := by have := hp.ol; omega
  have hd : p.da.size ≤ 1125899906842624 := by have := hp.dl; omega
  have hPb := (At.box w #[.int .i64 p.f, .int .i64 p.t, .int .i64 p.tl, .int .i64 p.pr, .int .i64 p.id, .int .i64 p.fr, .bool p.mo, .bool p.dn, .string p.op, .string p.da] 32).later (bel1 _ (.cells #[.int .i64 0, .int .i64 0, .int .i64 0, .int .i64 0, .int .i64 0, .int .i64 0, .bool false, .bool false, .string ⟨#[]⟩, .string ⟨#[]⟩] 32))
  have hZb := At.box2 w (.cells #[.int .i64 p.f, .int .i64 p.t, .int .i64 p.tl, .int .i64 p.pr, .int .i64 p.id, .int .i64 p.fr, .bool p.mo, .bool p.dn, .string p.op, .string p.da] 32) #[.int .i64 0, .int .i64 0, .int .i64 0, .int .i64 0, .int .i64 0, .int .i64 0, .bool false, .bool false, .string ⟨#[]⟩, .string ⟨#[]⟩] 32
  have hl0 := bt (bel1 w (.cells #[.int .i64 p.f, .int .i64 p.t, .int .i64 p.tl, .int .i64 p.pr, .int .i64 p.id, .int .i64 p.fr, .bool p.mo, .bool p.dn, .string p.op, .string p.da] 32)) (bel1 _ (.cells #[.int .i64 0, .int .i64 0, .int .i64 0, .int .i64 0, .int .i64 0, .int .i64 0, .bool false, .bool false, .string ⟨#[]⟩, .string ⟨#[]⟩] 32))
  have hB0 := hBX.later hl0
  have hbR := hBX.bR
  have hRw := hBX.rw'
  clear hBX
  go_enter Try.func13, Try.ntmps13
  go_upto_region 1 with fail
  generalize (w.alloc (.cells #[.int .i64 p.f, .int .i64 p.t, .int .i64 p.tl, .int .i64 p.pr, .int .i64 p.id, .int .i64 p.fr, .bool p.mo, .bool p.dn, .string p.op, .string p.da] 32)).alloc (.cells #[.int .i64 0, .int .i64 0, .int .i64 0, .int .i64 0, .int .i64 0, .int .i64 0, .bool false, .bool false, .string ⟨#[]⟩, .string ⟨#[]⟩] 32) = W0 at *
  go_wp2_with (first | (refine wpList_load_at rfl 32 _ rfl _ w.heap.size #[.int .i64 p.f, .int .i64 p.t, .int .i64 p.tl, .int .i64 p.pr, .int .i64 p.id, .int .i64 p.fr, .bool p.mo, .bool p.dn, .string p.op, .string p.da] _ rfl hPb Try.underlying32 (by kernel_rfl) ?_) | fail)
  refine (chk_t (dn := p.dn) hmay _ ho hd).mono ?_
  rintro e w1 ⟨rfl, l1⟩
  replace hPb := hPb.later l1
  replace hZb := hZb.later l1
  replace hB0 := hB0.later l1
  replace hl0 := bt hl0 l1
  go_wp2_with fail
  refine (move_any hB0 now hn1 hn2).mono ?_
  rintro e w2 ⟨rfl, hB2, ht2⟩
  have hP2 := hPb.turn ht2 (by omega)
  have hZ2 := hZb.turn ht2 (by omega)
  have htt : Turn (fun k => k = B) w w2 := (Turn.of_below hl0).trans ht2
  clear hPb hZb hB0 hl0 ht2 l1
  have hwc := whl_any p.f p.t p.tl p.pr p.id p.fr p.mo p.dn p.op p.da w2
  rw [hwh] at hwc
  go_wp2_with (first | (refine wpList_load_at rfl 32 _ rfl _ w.heap.size #[.int .i64 p.f, .int .i64 p.t, .int .i64 p.tl, .int .i64 p.pr, .int .i64 p.id, .int .i64 p.fr, .bool p.mo, .bool p.dn, .string p.op, .string p.da] _ rfl hP2 Try.underlying32 (by kernel_rfl) ?_) | fail)
  refine hwc.mono ?_
  rintro e w3 ⟨rfl, l3⟩
  clear hwc
  replace hP2 := hP2.later l3
  replace hZ2 := hZ2.later l3
  replace hB2 := hB2.later l3
  replace htt := htt.later l3
  have hs3 := hZ2.1
  clear l3
  have hcon := HL.out w3 hB2
  go_wp2_with (first | (refine wpList_load_at rfl 32 _ rfl _ w.heap.size #[.int .i64 p.f, .int .i64 p.t, .int .i64 p.tl, .int .i64 p.pr, .int .i64 p.id, .int .i64 p.fr, .bool p.mo, .bool p.dn, .string p.op, .string p.da] _ rfl hP2 Try.underlying32 (by kernel_rfl) ?_) | fail)
  refine hcon.mono ?_
  rintro e w4 ⟨rfl, hφ⟩
  have hZ4 := hZ2.turn (HP.out _ _ hB2 hφ) (fun e => by
    rcases e with e | e | ⟨x, hx, e⟩
    · omega
    · omega
    · have := HRL.out x hx _ e; omega)
  have HF : Hid (Φ w3 w4) := hφ
  clear hcon hφ
  go_wp2_with (first
    | (refine wpList_store_at rfl 32 _ _ rfl _ (w.heap.size + 1) #[.int .i64 0, .int .i64 0, .int .i64 0, .int .i64 0, .int .i64 0, .int .i64 0, .bool false, .bool false, .string ⟨#[]⟩, .string ⟨#[]⟩] #[.int .i64 0, .int .i64 0, .int .i64 0, .int .i64 0, .int .i64 0, .int .i64 0, .bool false, .bool false, .string ⟨#[]⟩, .string ⟨#[]⟩] rfl rfl hZ4 rfl (by kernel_rfl) (by simp [Value.oneCell']) ?_; intro w5 hZ5 ht5))
  have r0 := (hZ5.2 0 _ rfl).1
  have r1 := (hZ5.2 1 _ rfl).1
  have r2 := (hZ5.2 2 _ rfl).1
  have r3 := (hZ5.2 3 _ rfl).1
  have r4 := (hZ5.2 4 _ rfl).1
  have r5 := (hZ5.2 5 _ rfl).1
  have r6 := (hZ5.2 6 _ rfl).1
  have r7 := (hZ5.2 7 _ rfl).1
  have r8 := (hZ5.2 8 _ rfl).1
  have r9 := (hZ5.2 9 _ rfl).1
  exact bodyPost_ret (v := .tuple #[.agg #[.int .i64 0, .int .i64 0, .int .i64 0, .int .i64 0, .int .i64 0, .int .i64 0, .bool false, .bool false, .string ⟨#[]⟩, .string ⟨#[]⟩], .bool false, .int .i64 0]) (by simp [results, Try.results13, go_sem, r0, r1, r2, r3, r4, r5, r6, r7, r8, r9]) rfl ⟨rfl, w3, w4, hB2, htt, hs3, HF.out, ht5⟩
set_option maxHeartbeats 4000000 in
theorem take_yes (p : Pk) (hmay : p.may = true) (w : World) (R B M : Nat) (ro pa la tu : Int) (l : List Pile) (hBX : BX w R B M ro pa la tu l) (now : Int) (hn1 : la ≤ now) (hn2 : now ≤ 1099511627776) (q : Pk) (ds : List UInt8) (hwh : wholeB p.fr p.mo = false) (Φ : World → World → Prop) (hlay : ∀ W, BX W R B M ro pa now tu l → Calls Try.prog 23 #[.pointer (some ⟨B, 0, none⟩), .agg #[.int .i64 p.f, .int .i64 p.t, .int .i64 p.tl, .int .i64 p.pr, .int .i64 p.id, .int .i64 p.fr, .bool p.mo, .bool p.dn, .string p.op, .string p.da]] W fun e w' => e = .returned (.tuple #[.agg #[.int .i64 q.f, .int .i64 q.t, .int .i64 q.tl, .int .i64 q.pr, .int .i64 q.id, .int .i64 q.fr, .bool false, .bool q.dn, .string q.op, .string ⟨ds.toArray⟩], .bool true, .int .i64 0]) ∧ Φ W w') (hΦ : ∀ W W', BX W R B M ro pa now tu l → Φ W W' → Turn (FL B M l) W W') :
    Calls Try.prog 13 #[.pointer (some ⟨B, 0, none⟩), .agg #[.int .i64 p.f, .int .i64 p.t, .int .i64 p.tl, .int .i64 p.pr, .int .i64 p.id, .int .i64 p.fr, .bool p.mo, .bool p.dn, .string p.op, .string p.da], .int .i64 now] w fun e w' => e = .returned (.tuple #[.agg #[.int .i64 q.f, .int .i64 q.t, .int .i64 q.tl, .int .i64 q.pr, .int .i64 q.id, .int .i64 q.fr, .bool false, .bool q.dn, .string q.op, .string ⟨ds.toArray⟩], .bool true, .int .i64 0]) ∧ TP w w' R B M ro pa now tu l Φ := by
  have hrl : ∀ x ∈ l, ∀ k, x.v.ownBlock = some k → k < w.heap.size := fun x hx k hk => (hBX.ok x hx).row.lt k hk
  have hmR := hBX.mR
  have HRL : Hid (∀ x ∈ l, ∀ k, x.v.ownBlock = some k → k < w.heap.size) := hrl
  clear hrl
  have HL : Hid (∀ W, BX W R B M ro pa now tu l → Calls Try.prog 23 #[.pointer (some ⟨B, 0, none⟩), .agg #[.int .i64 p.f, .int .i64 p.t, .int .i64 p.tl, .int .i64 p.pr, .int .i64 p.id, .int .i64 p.fr, .bool p.mo, .bool p.dn, .string p.op, .string p.da]] W fun e w' => e = .returned (.tuple #[.agg #[.int .i64 q.f, .int .i64 q.t, .int .i64 q.tl, .int .i64 q.pr, .int .i64 q.id, .int .i64 q.fr, .bool false, .bool q.dn, .string q.op, .string ⟨ds.toArray⟩], .bool true, .int .i64 0]) ∧ Φ W w') := hlay
  have HP : Hid (∀ W W', BX W R B M ro pa now tu l → Φ W W' → Turn (FL B M l) W W') := hΦ
  clear hlay hΦ
  have hp := may_fine hmay
  have ho : p.op.size ≤ 1125899906842624 := by have := hp.ol; omega
  have hd : p.da.size ≤ 1125899906842624 := by have := hp.dl; omega
  have hPb := (At.box w #[.int .i64 p.f, .int .i64 p.t, .int .i64 p.tl, .int .i64 p.pr, .int .i64 p.id, .int .i64 p.fr, .bool p.mo, .bool p.dn, .string p.op, .string p.da] 32).later (bel1 _ (.cells #[.int .i64 0, .int .i64 0, .int .i64 0, .int .i64 0, .int .i64 0, .int .i64 0, .bool false, .bool false, .string ⟨#[]⟩, .string ⟨#[]⟩] 32))
  have hZb := At.box2 w (.cells #[.int .i64 p.f, .int .i64 p.t, .int .i64 p.tl, .int .i64 p.pr, .int .i64 p.id, .int .i64 p.fr, .bool p.mo, .bool p.dn, .string p.op, .string p.da] 32) #[.int .i64 0, .int .i64 0, .int .i64 0, .int .i64 0, .int .i64 0, .int .i64 0, .bool false, .bool false, .string ⟨#[]⟩, .string ⟨#[]⟩] 32
  have hl0 := bt (bel1 w (.cells #[.int .i64 p.f, .int .i64 p.t, .int .i64 p.tl, .int .i64 p.pr, .int .i64 p.id, .int .i64 p.fr, .bool p.mo, .bool p.dn, .string p.op, .string p.da] 32)) (bel1 _ (.cells #[.int .i64 0, .int .i64 0, .int .i64 0, .int .i64 0, .int .i64 0, .int .i64 0, .bool false, .bool false, .string ⟨#[]⟩, .string ⟨#[]⟩] 32))
  have hB0 := hBX.later hl0
  have hbR := hBX.bR
  have hRw := hBX.rw'
  clear hBX
  go_enter Try.func13, Try.ntmps13
  go_upto_region 1 with fail
  generalize (w.alloc (.cells #[.int .i64 p.f, .int .i64 p.t, .int .i64 p.tl, .int .i64 p.pr, .int .i64 p.id, .int .i64 p.fr, .bool p.mo, .bool p.dn, .string p.op, .string p.da] 32)).alloc (.cells #[.int .i64 0, .int .i64 0, .int .i64 0, .int .i64 0, .int .i64 0, .int .i64 0, .bool false, .bool false, .string ⟨#[]⟩, .string ⟨#[]⟩] 32) = W0 at *
  go_wp2_with (first | (refine wpList_load_at rfl 32 _ rfl _ w.heap.size #[.int .i64 p.f, .int .i64 p.t, .int .i64 p.tl, .int .i64 p.pr, .int .i64 p.id, .int .i64 p.fr, .bool p.mo, .bool p.dn, .string p.op, .string p.da] _ rfl hPb Try.underlying32 (by kernel_rfl) ?_) | fail)
  refine (chk_t (dn := p.dn) hmay _ ho hd).mono ?_
  rintro e w1 ⟨rfl, l1⟩
  replace hPb := hPb.later l1
  replace hZb := hZb.later l1
  replace hB0 := hB0.later l1
  replace hl0 := bt hl0 l1
  go_wp2_with fail
  refine (move_any hB0 now hn1 hn2).mono ?_
  rintro e w2 ⟨rfl, hB2, ht2⟩
  have hP2 := hPb.turn ht2 (by omega)
  have hZ2 := hZb.turn ht2 (by omega)
  have htt : Turn (fun k => k = B) w w2 := (Turn.of_below hl0).trans ht2
  clear hPb hZb hB0 hl0 ht2 l1
  have hwc := whl_any p.f p.t p.tl p.pr p.id p.fr p.mo p.dn p.op p.da w2
  rw [hwh] at hwc
  go_wp2_with (first | (refine wpList_load_at rfl 32 _ rfl _ w.heap.size #[.int .i64 p.f, .int .i64 p.t, .int .i64 p.tl, .int .i64 p.pr, .int .i64 p.id, .int .i64 p.fr, .bool p.mo, .bool p.dn, .string p.op, .string p.da] _ rfl hP2 Try.underlying32 (by kernel_rfl) ?_) | fail)
  refine hwc.mono ?_
  rintro e w3 ⟨rfl, l3⟩
  clear hwc
  replace hP2 := hP2.later l3
  replace hZ2 := hZ2.later l3
  replace hB2 := hB2.later l3
  replace htt := htt.later l3
  have hs3 := hZ2.1
  clear l3
  have hcon := HL.out w3 hB2
  go_wp2_with (first | (refine wpList_load_at rfl 32 _ rfl _ w.heap.size #[.int .i64 p.f, .int .i64 p.t, .int .i64 p.tl, .int .i64 p.pr, .int .i64 p.id, .int .i64 p.fr, .bool p.mo, .bool p.dn, .string p.op, .string p.da] _ rfl hP2 Try.underlying32 (by kernel_rfl) ?_) | fail)
  refine hcon.mono ?_
  rintro e w4 ⟨rfl, hφ⟩
  have hZ4 := hZ2.turn (HP.out _ _ hB2 hφ) (fun e => by
    rcases e with e | e | ⟨x, hx, e⟩
    · omega
    · omega
    · have := HRL.out x hx _ e; omega)
  have HF : Hid (Φ w3 w4) := hφ
  clear hcon hφ
  go_wp2_with (first
    | (refine wpList_store_at rfl 32 _ _ rfl _ (w.heap.size + 1) #[.int .i64 0, .int .i64 0, .int .i64 0, .int .i64 0, .int .i64 0, .int .i64 0, .bool false, .bool false, .string ⟨#[]⟩, .string ⟨#[]⟩] #[.int .i64 q.f, .int .i64 q.t, .int .i64 q.tl, .int .i64 q.pr, .int .i64 q.id, .int .i64 q.fr, .bool false, .bool q.dn, .string q.op, .string ⟨ds.toArray⟩] rfl rfl hZ4 rfl (by kernel_rfl) (by simp [Value.oneCell']) ?_; intro w5 hZ5 ht5))
  have r0 := (hZ5.2 0 _ rfl).1
  have r1 := (hZ5.2 1 _ rfl).1
  have r2 := (hZ5.2 2 _ rfl).1
  have r3 := (hZ5.2 3 _ rfl).1
  have r4 := (hZ5.2 4 _ rfl).1
  have r5 := (hZ5.2 5 _ rfl).1
  have r6 := (hZ5.2 6 _ rfl).1
  have r7 := (hZ5.2 7 _ rfl).1
  have r8 := (hZ5.2 8 _ rfl).1
  have r9 := (hZ5.2 9 _ rfl).1
  exact bodyPost_ret (v := .tuple #[.agg #[.int .i64 q.f, .int .i64 q.t, .int .i64 q.tl, .int .i64 q.pr, .int .i64 q.id, .int .i64 q.fr, .bool false, .bool q.dn, .string q.op, .string ⟨ds.toArray⟩], .bool true, .int .i64 0]) (by simp [results, Try.results13, go_sem, r0, r1, r2, r3, r4, r5, r6, r7, r8, r9]) rfl ⟨rfl, w3, w4, hB2, htt, hs3, HF.out, ht5⟩
end Go.Proofs.Ytcjhniehbafhpaa

namespace Go.Proofs.Ytcjhniehbafhpaa
open Go.RowKit Go.Maps
set_option maxRecDepth 100000
set_option linter.unusedVariables false
set_option linter.unusedSimpArgs false

set_option maxHeartbeats 8000000 in
theorem lay_full (p : Pk) (hp : p.Fine) (hm : (mk p).wf) (w : World) (R B M : Nat) (ro pa la tu : Int) (l : List Pile) (hBX : BX w R B M ro pa la tu l) (hnw : mk p ∉ l.map (·.m)) (hroom : ro ≤ (l.length : Int)) (hll : l.length ≤ 64) :
    Calls Try.prog 23 #[.pointer (some ⟨B, 0, none⟩), .agg #[.int .i64 p.f, .int .i64 p.t, .int .i64 p.tl, .int .i64 p.pr, .int .i64 p.id, .int .i64 p.fr, .bool p.mo, .bool p.dn, .string p.op, .string p.da]] w fun e w' => e = .returned (.tuple #[.agg #[.int .i64 0, .int .i64 0, .int .i64 0, .int .i64 0, .int .i64 0, .int .i64 0, .bool false, .bool false, .string ⟨#[]⟩, .string ⟨#[]⟩], .bool false, .int .i64 150]) ∧ LayBox w w' R B M ro pa la tu l l := by
  have hPb := (At.box w #[.int .i64 p.f, .int .i64 p.t, .int .i64 p.tl, .int .i64 p.pr, .int .i64 p.id, .int .i64 p.fr, .bool p.mo, .bool p.dn, .string p.op, .string p.da] 32).later (bel1 _ (.cells #[.int .i64 0, .int .i64 0, .int .i64 0, .int .i64 0, .int .i64 0, .int .i64 0, .bool false, .bool false, .string ⟨#[]⟩, .string ⟨#[]⟩] 32))
  have hZb := At.box2 w (.cells #[.int .i64 p.f, .int .i64 p.t, .int .i64 p.tl, .int .i64 p.pr, .int .i64 p.id, .int .i64 p.fr, .bool p.mo, .bool p.dn, .string p.op, .string p.da] 32) #[.int .i64 0, .int .i64 0, .int .i64 0, .int .i64 0, .int .i64 0, .int .i64 0, .bool false, .bool false, .string ⟨#[]⟩, .string ⟨#[]⟩] 32
  have hl0 := bt (bel1 w (.cells #[.int .i64 p.f, .int .i64 p.t, .int .i64 p.tl, .int .i64 p.pr, .int .i64 p.id, .int .i64 p.fr, .bool p.mo, .bool p.dn, .string p.op, .string p.da] 32)) (bel1 _ (.cells #[.int .i64 0, .int .i64 0, .int .i64 0, .int .i64 0, .int .i64 0, .int .i64 0, .bool false, .bool false, .string ⟨#[]⟩, .string ⟨#[]⟩] 32))
  have hB0 := hBX.later hl0
  have hRw := hBX.rw'
  have hrl : ∀ x ∈ l, ∀ k, x.v.ownBlock = some k → k < w.heap.size := fun x hx k hk => (hBX.ok x hx).row.lt k hk
  have HRL : Hid (∀ x ∈ l, ∀ k, x.v.ownBlock = some k → k < w.heap.size) := hrl
  have hbR := hBX.bR
  have hmR := hBX.mR
  clear hBX hrl
  go_enter Try.func23, Try.ntmps23
  go_upto_region 1 with fail
  generalize (w.alloc (.cells #[.int .i64 p.f, .int .i64 p.t, .int .i64 p.tl, .int .i64 p.pr, .int .i64 p.id, .int .i64 p.fr, .bool p.mo, .bool p.dn, .string p.op, .string p.da] 32)).alloc (.cells #[.int .i64 0, .int .i64 0, .int .i64 0, .int .i64 0, .int .i64 0, .int .i64 0, .bool false, .bool false, .string ⟨#[]⟩, .string ⟨#[]⟩] 32) = W0 at *
  have c0 := (hPb.2 0 _ rfl).1
  have c1 := (hPb.2 1 _ rfl).1
  have c3 := (hPb.2 3 _ rfl).1
  have c4 := (hPb.2 4 _ rfl).1
  have hW0 : w.heap.size + 2 ≤ W0.heap.size := by have := hZb.1; omega
  go_upto_region 2 with (first
    | (refine wpList_store_at rfl 77 _ _ rfl _ W0.heap.size #[.int .i64 0, .int .i64 0, .int .i64 0, .int .i64 0] #[.int .i64 p.f, .int .i64 p.t, .int .i64 p.pr, .int .i64 p.id] rfl rfl (At.box W0 #[.int .i64 0, .int .i64 0, .int .i64 0, .int .i64 0] 77) rfl infoM (by simp [Value.oneCell']) ?_; intro w1 hMk ht1)
    | go_in)
  have q1 : Below W0.heap.size W0 w1 := (bel1 W0 (.cells #[.int .i64 0, .int .i64 0, .int .i64 0, .int .i64 0] 77)).trans (below_turn ht1 (Nat.le_refl _) (bel1 W0 _).size)
  have hB1 := hB0.later q1
  have hP1 := hPb.later q1
  have hZ1 := hZb.later q1
  have hl1 := bt hl0 q1
  have hmb := hMk.1
  obtain ⟨mb, hmbe⟩ : ∃ x, x = W0.heap.size := ⟨_, rfl⟩
  rw [← hmbe] at hMk hmb hW0
  rw [← hmbe]
  clear c0 c1 c3 c4 hB0 hPb hZb hl0 ht1 q1 hmbe
  have hf4 : ∀ W, Below w1.heap.size w1 W → W.cell? ⟨B, 4, none⟩ = some (.map (some M)) := fun W hW => later hW (box_map hB1)
  have hm0 : ∀ W, Below w1.heap.size w1 W → W.cell? ⟨mb, 0, none⟩ = some (.int .i64 p.f) := fun W hW => later hW (hMk.2 0 _ rfl).1
  have hm1 : ∀ W, Below w1.heap.size w1 W → W.cell? ⟨mb, 1, none⟩ = some (.int .i64 p.t) := fun W hW => later hW (hMk.2 1 _ rfl).1
  have hm2 : ∀ W, Below w1.heap.size w1 W → W.cell? ⟨mb, 2, none⟩ = some (.int .i64 p.pr) := fun W hW => later hW (hMk.2 2 _ rfl).1
  have hm3 : ∀ W, Below w1.heap.size w1 W → W.cell? ⟨mb, 3, none⟩ = some (.int .i64 p.id) := fun W hW => later hW (hMk.2 3 _ rfl).1
  have hlk : ∀ W, Below w1.heap.size w1 W → (Instr.lookup 54 (.map (some M)) (.agg #[.int .i64 p.f, .int .i64 p.t, .int .i64 p.pr, .int .i64 p.id]) true).run Try.prog W = .ok (.tuple #[.agg #[.int .i64 0, .int .i64 0, .slice none 0 0], .bool false]) W := fun W hW => by
    have h := (hB1.map.later hW).look hm
    rw [glk_none (fun h => hnw (by rw [List.map_map] at h; exact h))] at h
    exact h
  have hone : (#[.int .i64 0, .int .i64 0, .slice none 0 0] : Array Value).all (·.oneCell') = true := by simp [Value.oneCell']
  refine wp_region_held_drew (S := (fun W => Below w1.heap.size w1 W)) (by kernel_rfl) ?_ (fun hHeld => ?_)
  · first | exact (Below.refl _ _).drew | assumption
  refine tk (i := 0) (oi := ⟨some 20, .move (.tmp 0), 23, "frag.go:90", #[], none⟩) (v := .pointer (some ⟨B, 0, none⟩)) rfl (by kernel_rfl) (fun _ _ _ h => h) (Or.inl ⟨by rfl, ?_⟩) (by assumption) ?_
  · intro wx hSw
    go_simp
    try with_reducible rfl
  try simp only [Act.put, La1, La2, La3]
  refine tk (i := 1) (oi := ⟨some 21, .nilCheck (.tmp 20), 0, "frag.go:90", #[⟨0, .data⟩], none⟩) (v := .pointer (some ⟨B, 0, none⟩)) rfl (by kernel_rfl) (fun _ _ _ h => h) (Or.inl ⟨by rfl, ?_⟩) (by assumption) ?_
  · intro wx hSw
    go_simp
    try with_reducible rfl
  try simp only [Act.put, La1, La2, La3]
  refine tk (i := 2) (oi := ⟨some 22, .fieldAddr 56 (.tmp 21) 4, 0, "frag.go:90", #[⟨1, .data⟩], none⟩) (v := .pointer (some ⟨B, 4, none⟩)) rfl (by kernel_rfl) (fun _ _ _ h => h) (Or.inl ⟨by rfl, ?_⟩) (by assumption) ?_
  · intro wx hSw
    go_simp
    try with_reducible rfl
  try simp only [Act.put, La1, La2, La3]
  refine tk (i := 3) (oi := ⟨some 23, .load 54 (.tmp 22), 54, "frag.go:90", #[⟨2, .data⟩], none⟩) (v := .map (some M)) rfl (by kernel_rfl) (fun _ _ _ h => h) (Or.inl ⟨by rfl, ?_⟩) (by assumption) ?_
  · intro wx hSw
    try dsimp only at hSw
    have u4 := hf4 wx hSw
    have um0 := hm0 wx hSw
    have um1 := hm1 wx hSw
    have um2 := hm2 wx hSw
    have um3 := hm3 wx hSw
    have ul := hlk wx hSw
    go_simp
    try with_reducible rfl
  try simp only [Act.put, La1, La2, La3]
  refine tk (i := 4) (oi := ⟨some 24, .load 77 (.tmp 7), 77, "frag.go:90", #[], none⟩) (v := .agg #[.int .i64 p.f, .int .i64 p.t, .int .i64 p.pr, .int .i64 p.id]) rfl (by kernel_rfl) (fun _ _ _ h => h) (Or.inl ⟨by rfl, ?_⟩) (by assumption) ?_
  · intro wx hSw
    try dsimp only at hSw
    have u4 := hf4 wx hSw
    have um0 := hm0 wx hSw
    have um1 := hm1 wx hSw
    have um2 := hm2 wx hSw
    have um3 := hm3 wx hSw
    have ul := hlk wx hSw
    go_simp
    try with_reducible rfl
  try simp only [Act.put, La1, La2, La3]
  refine tk (i := 5) (oi := ⟨some 25, .lookup 54 (.tmp 23) (.tmp 24) true, 80, "frag.go:90", #[⟨3, .data⟩, ⟨4, .data⟩], none⟩) (v := .tuple #[.agg #[.int .i64 0, .int .i64 0, .slice none 0 0], .bool false]) rfl (by kernel_rfl) (fun _ _ _ h => h) (Or.inl ⟨by rfl, ?_⟩) (by assumption) ?_
  · intro wx hSw
    try dsimp only at hSw
    have u4 := hf4 wx hSw
    have um0 := hm0 wx hSw
    have um1 := hm1 wx hSw
    have um2 := hm2 wx hSw
    have um3 := hm3 wx hSw
    have ul := hlk wx hSw
    go_simp
    try with_reducible rfl
  try simp only [Act.put, La1, La2, La3]
  refine tk (i := 6) (oi := ⟨some 19, .move (.tmp 25), 80, "frag.go:90", #[⟨5, .data⟩], none⟩) (v := .tuple #[.agg #[.int .i64 0, .int .i64 0, .slice none 0 0], .bool false]) rfl (by kernel_rfl) (fun _ _ _ h => h) (Or.inl ⟨by rfl, ?_⟩) (by assumption) ?_
  · intro wx hSw
    go_simp
    try with_reducible rfl
  try simp only [Act.put, La1, La2, La3]
  refine tk (i := 7) (oi := ⟨some 26, .extract (.tmp 19) 0, 61, "frag.go:90", #[⟨6, .data⟩], none⟩) (v := .agg #[.int .i64 0, .int .i64 0, .slice none 0 0]) rfl (by kernel_rfl) (fun _ _ _ h => h) (Or.inl ⟨by rfl, ?_⟩) (by assumption) ?_
  · intro wx hSw
    go_simp
    try with_reducible rfl
  try simp only [Act.put, La1, La2, La3]
  refine tk (i := 8) (oi := ⟨some 27, .extract (.tmp 19) 1, 4, "frag.go:90", #[⟨6, .data⟩, { on := 10, ground := .gcOnly .lateStores }], none⟩) (v := .bool false) rfl (by kernel_rfl) (fun _ _ _ h => h) (Or.inl ⟨by rfl, ?_⟩) (by assumption) ?_
  · intro wx hSw
    go_simp
    try with_reducible rfl
  try simp only [Act.put, La1, La2, La3]
  refine wpAnyH_ready (rs := [9]) (by kernel_rfl) (by simp) ?_
  refine AllReadyH.cons (o := ⟨some 8, .alloc 61, 0, "frag.go:90", #[], none⟩) rfl (fun K hK => ?_) AllReadyH.nil
  go_simp
  refine hK.out _ _ (bt hHeld (bel1 _ _)) (fun hHeld => ?_)
  clear hK K
  try simp only [Act.put, La1, La2, La3]
  refine wpAnyH_ready (rs := [10]) (by kernel_rfl) (by simp) ?_
  refine AllReadyH.cons (o := ⟨none, .store 61 (.tmp 8) (.tmp 26), 0, "frag.go:90", #[⟨9, .data⟩, ⟨7, .data⟩, ⟨0, .phase⟩, ⟨1, .phase⟩, ⟨2, .phase⟩, ⟨3, .phase⟩, ⟨4, .phase⟩, ⟨5, .phase⟩, ⟨6, .phase⟩, ⟨7, .phase⟩, { on := 8, ground := .textOnly .lateStores }, ⟨9, .phase⟩], none⟩) rfl (fun K hK => ?_) AllReadyH.nil
  rw [if_pos (by rfl)]
  refine op_store_at 61 _ _ rfl _ w1.heap.size #[.int .i64 0, .int .i64 0, .slice none 0 0] #[.int .i64 0, .int .i64 0, .slice none 0 0] rfl rfl (At.box w1.drew #[.int .i64 0, .int .i64 0, .slice none 0 0] 61) rfl infoX hone ?_
  intro w2 hX2 ht2
  have hb2 : Below w1.heap.size w1 w2 := hHeld.trans (below_turn ht2 (Nat.le_refl _) hHeld.size)
  refine hK.out _ _ hb2 (fun hHeld => ?_)
  clear hK K
  try simp only [Act.put, La1, La2, La3]
  refine tk (i := 11) (oi := ⟨some 9, .assign (.tmp 27), 4, "frag.go:90", #[⟨8, .data⟩, ⟨10, .chain⟩, ⟨0, .phase⟩, ⟨1, .phase⟩, ⟨2, .phase⟩, ⟨3, .phase⟩, ⟨4, .phase⟩, ⟨5, .phase⟩, ⟨6, .phase⟩, ⟨7, .phase⟩, ⟨8, .phase⟩, ⟨9, .phase⟩, ⟨10, .phase⟩], none⟩) (v := .bool false) rfl (by kernel_rfl) (fun _ _ _ h => h) (Or.inl ⟨by rfl, ?_⟩) (by assumption) ?_
  · intro wx hSw
    go_simp
    try with_reducible rfl
  try simp only [Act.put, La1, La2, La3]
  refine wpAnyH_done (by kernel_rfl) ?_ _
  replace hB1 := hB1.later hb2
  replace hP1 := hP1.later hb2
  replace hZ1 := hZ1.later hb2
  replace hMk := hMk.later hb2
  replace hl1 := bt hl1 hb2
  obtain ⟨xb, hxb⟩ : ∃ x, x = w1.heap.size := ⟨_, rfl⟩
  rw [← hxb] at hX2 hmb
  rw [← hxb]
  have hxs := hX2.1
  clear hf4 hm0 hm1 hm2 hm3 hlk hHeld ht2 hb2 hxb
  go_upto_region 3 with fail
  have g4 := box_map hB1
  have g0 := (hB1.box.2 0 _ rfl).1
  have hln : ∀ nn ty, (Builtin.len_ #[54] ty #[.map (some M)]).run Try.prog (w2.drewN nn) = .ok (.int .i64 (l.length : Int)) (w2.drewN nn) := fun nn ty => by
    have h := (hB1.map.later (below_drewN (Below.refl _ _) nn)).len ty
    rw [List.length_map] at h
    exact h
  have hge : ro ≤ (l.length : Int) := hroom
  have hlz : (l.length : Int) ≤ 64 := by omega
  go_quiet (fail)
  have qd : Below w2.heap.size w2 (w2.drewN nq) := below_drewN (Below.refl _ _) nq
  replace hB1 := hB1.later qd
  replace hZ1 := hZ1.later qd
  replace hl1 := bt hl1 qd
  clear qd g4 g0 hln
  go_upto_region 4 with fail
  generalize w2.drewN nq = w3 at *
  go_wp2_with (first
    | (refine wpList_store_at rfl 32 _ _ rfl _ (w.heap.size + 1) #[.int .i64 0, .int .i64 0, .int .i64 0, .int .i64 0, .int .i64 0, .int .i64 0, .bool false, .bool false, .string ⟨#[]⟩, .string ⟨#[]⟩] #[.int .i64 0, .int .i64 0, .int .i64 0, .int .i64 0, .int .i64 0, .int .i64 0, .bool false, .bool false, .string ⟨#[]⟩, .string ⟨#[]⟩] rfl rfl hZ1 rfl (by kernel_rfl) oneZ ?_; intro w9 hZ9 ht9))
  have r0 := (hZ9.2 0 _ rfl).1
  have r1 := (hZ9.2 1 _ rfl).1
  have r2 := (hZ9.2 2 _ rfl).1
  have r3 := (hZ9.2 3 _ rfl).1
  have r4 := (hZ9.2 4 _ rfl).1
  have r5 := (hZ9.2 5 _ rfl).1
  have r6 := (hZ9.2 6 _ rfl).1
  have r7 := (hZ9.2 7 _ rfl).1
  have r8 := (hZ9.2 8 _ rfl).1
  have r9 := (hZ9.2 9 _ rfl).1
  exact bodyPost_ret (v := .tuple #[.agg #[.int .i64 0, .int .i64 0, .int .i64 0, .int .i64 0, .int .i64 0, .int .i64 0, .bool false, .bool false, .string ⟨#[]⟩, .string ⟨#[]⟩], .bool false, .int .i64 150]) (by simp [results, Try.results23, go_sem, r0, r1, r2, r3, r4, r5, r6, r7, r8, r9]) rfl ⟨rfl, hB1.turn ht9 (by omega) (by omega) (fun x hx k hk e => by have := HRL.out x hx k hk; omega), (Turn.of_below hl1).step ht9 (fun k e => Or.inr (by omega))⟩
end Go.Proofs.Ytcjhniehbafhpaa

namespace Go.Proofs.Ytcjhniehbafhpaa
open Go.RowKit Go.Maps
set_option maxRecDepth 100000
set_option linter.unusedVariables false
set_option linter.unusedSimpArgs false

set_option maxHeartbeats 4000000 in
theorem take_full (p : Pk) (hmay : p.may = true) (w : World) (R B M : Nat) (ro pa la tu : Int) (l : List Pile) (hBX : BX w R B M ro pa la tu l) (now : Int) (hn1 : la ≤ now) (hn2 : now ≤ 1099511627776) (hwh : wholeB p.fr p.mo = false) (Φ : World → World → Prop) (hlay : ∀ W, BX W R B M ro pa now tu l → Calls Try.prog 23 #[.pointer (some ⟨B, 0, none⟩), .agg #[.int .i64 p.f, .int .i64 p.t, .int .i64 p.tl, .int .i64 p.pr, .int .i64 p.id, .int .i64 p.fr, .bool p.mo, .bool p.dn, .string p.op, .string p.da]] W fun e w' => e = .returned (.tuple #[.agg #[.int .i64 0, .int .i64 0, .int .i64 0, .int .i64 0, .int .i64 0, .int .i64 0, .bool false, .bool false, .string ⟨#[]⟩, .string ⟨#[]⟩], .bool false, .int .i64 150]) ∧ Φ W w') (hΦ : ∀ W W', BX W R B M ro pa now tu l → Φ W W' → Turn (FL B M l) W W') :
    Calls Try.prog 13 #[.pointer (some ⟨B, 0, none⟩), .agg #[.int .i64 p.f, .int .i64 p.t, .int .i64 p.tl, .int .i64 p.pr, .int .i64 p.id, .int .i64 p.fr, .bool p.mo, .bool p.dn, .string p.op, .string p.da], .int .i64 now] w fun e w' => e = .returned (.tuple #[.agg #[.int .i64 0, .int .i64 0, .int .i64 0, .int .i64 0, .int .i64 0, .int .i64 0, .bool false, .bool false, .string ⟨#[]⟩, .string ⟨#[]⟩], .bool false, .int .i64 150]) ∧ TP w w' R B M ro pa now tu l Φ := by
  have hrl : ∀ x ∈ l, ∀ k, x.v.ownBlock = some k → k < w.heap.size := fun x hx k hk => (hBX.ok x hx).row.lt k hk
  have hmR := hBX.mR
  have HRL : Hid (∀ x ∈ l, ∀ k, x.v.ownBlock = some k → k < w.heap.size) := hrl
  clear hrl
  have HL : Hid (∀ W, BX W R B M ro pa now tu l → Calls Try.prog 23 #[.pointer (some ⟨B, 0, none⟩), .agg #[.int .i64 p.f, .int .i64 p.t, .int .i64 p.tl, .int .i64 p.pr, .int .i64 p.id, .int .i64 p.fr, .bool p.mo, .bool p.dn, .string p.op, .string p.da]] W fun e w' => e = .returned (.tuple #[.agg #[.int .i64 0, .int .i64 0, .int .i64 0, .int .i64 0, .int .i64 0, .int .i64 0, .bool false, .bool false, .string ⟨#[]⟩, .string ⟨#[]⟩], .bool false, .int .i64 150]) ∧ Φ W w') := hlay
  have HP : Hid (∀ W W', BX W R B M ro pa now tu l → Φ W W' → Turn (FL B M l) W W') := hΦ
  clear hlay hΦ
  have hp := may_fine hmay
  have ho : p.op.size ≤ 1125899906842624 := by have := hp.ol; omega
  have hd : p.da.size ≤ 1125899906842624 := by have := hp.dl; omega
  have hPb := (At.box w #[.int .i64 p.f, .int .i64 p.t, .int .i64 p.tl, .int .i64 p.pr, .int .i64 p.id, .int .i64 p.fr, .bool p.mo, .bool p.dn, .string p.op, .string p.da] 32).later (bel1 _ (.cells #[.int .i64 0, .int .i64 0, .int .i64 0, .int .i64 0, .int .i64 0, .int .i64 0, .bool false, .bool false, .string ⟨#[]⟩, .string ⟨#[]⟩] 32))
  have hZb := At.box2 w (.cells #[.int .i64 p.f, .int .i64 p.t, .int .i64 p.tl, .int .i64 p.pr, .int .i64 p.id, .int .i64 p.fr, .bool p.mo, .bool p.dn, .string p.op, .string p.da] 32) #[.int .i64 0, .int .i64 0, .int .i64 0, .int .i64 0, .int .i64 0, .int .i64 0, .bool false, .bool false, .string ⟨#[]⟩, .string ⟨#[]⟩] 32
  have hl0 := bt (bel1 w (.cells #[.int .i64 p.f, .int .i64 p.t, .int .i64 p.tl, .int .i64 p.pr, .int .i64 p.id, .int .i64 p.fr, .bool p.mo, .bool p.dn, .string p.op, .string p.da] 32)) (bel1 _ (.cells #[.int .i64 0, .int .i64 0, .int .i64 0, .int .i64 0, .int .i64 0, .int .i64 0, .bool false, .bool false, .string ⟨#[]⟩, .string ⟨#[]⟩] 32))
  have hB0 := hBX.later hl0
  have hbR := hBX.bR
  have hRw := hBX.rw'
  clear hBX
  go_enter Try.func13, Try.ntmps13
  go_upto_region 1 with fail
  generalize (w.alloc (.cells #[.int .i64 p.f, .int .i64 p.t, .int .i64 p.tl, .int .i64 p.pr, .int .i64 p.id, .int .i64 p.fr, .bool p.mo, .bool p.dn, .string p.op, .string p.da] 32)).alloc (.cells #[.int .i64 0, .int .i64 0, .int .i64 0, .int .i64 0, .int .i64 0, .int .i64 0, .bool false, .bool false, .string ⟨#[]⟩, .string ⟨#[]⟩] 32) = W0 at *
  go_wp2_with (first | (refine wpList_load_at rfl 32 _ rfl _ w.heap.size #[.int .i64 p.f, .int .i64 p.t, .int .i64 p.tl, .int .i64 p.pr, .int .i64 p.id, .int .i64 p.fr, .bool p.mo, .bool p.dn, .string p.op, .string p.da] _ rfl hPb Try.underlying32 (by kernel_rfl) ?_) | fail)
  refine (chk_t (dn := p.dn) hmay _ ho hd).mono ?_
  rintro e w1 ⟨rfl, l1⟩
  replace hPb := hPb.later l1
  replace hZb := hZb.later l1
  replace hB0 := hB0.later l1
  replace hl0 := bt hl0 l1
  go_wp2_with fail
  refine (move_any hB0 now hn1 hn2).mono ?_
  rintro e w2 ⟨rfl, hB2, ht2⟩
  have hP2 := hPb.turn ht2 (by omega)
  have hZ2 := hZb.turn ht2 (by omega)
  have htt : Turn (fun k => k = B) w w2 := (Turn.of_below hl0).trans ht2
  clear hPb hZb hB0 hl0 ht2 l1
  have hwc := whl_any p.f p.t p.tl p.pr p.id p.fr p.mo p.dn p.op p.da w2
  rw [hwh] at hwc
  go_wp2_with (first | (refine wpList_load_at rfl 32 _ rfl _ w.heap.size #[.int .i64 p.f, .int .i64 p.t, .int .i64 p.tl, .int .i64 p.pr, .int .i64 p.id, .int .i64 p.fr, .bool p.mo, .bool p.dn, .string p.op, .string p.da] _ rfl hP2 Try.underlying32 (by kernel_rfl) ?_) | fail)
  refine hwc.mono ?_
  rintro e w3 ⟨rfl, l3⟩
  clear hwc
  replace hP2 := hP2.later l3
  replace hZ2 := hZ2.later l3
  replace hB2 := hB2.later l3
  replace htt := htt.later l3
  have hs3 := hZ2.1
  clear l3
  have hcon := HL.out w3 hB2
  go_wp2_with (first | (refine wpList_load_at rfl 32 _ rfl _ w.heap.size #[.int .i64 p.f, .int .i64 p.t, .int .i64 p.tl, .int .i64 p.pr, .int .i64 p.id, .int .i64 p.fr, .bool p.mo, .bool p.dn, .string p.op, .string p.da] _ rfl hP2 Try.underlying32 (by kernel_rfl) ?_) | fail)
  refine hcon.mono ?_
  rintro e w4 ⟨rfl, hφ⟩
  have hZ4 := hZ2.turn (HP.out _ _ hB2 hφ) (fun e => by
    rcases e with e | e | ⟨x, hx, e⟩
    · omega
    · omega
    · have := HRL.out x hx _ e; omega)
  have HF : Hid (Φ w3 w4) := hφ
  clear hcon hφ
  go_wp2_with (first
    | (refine wpList_store_at rfl 32 _ _ rfl _ (w.heap.size + 1) #[.int .i64 0, .int .i64 0, .int .i64 0, .int .i64 0, .int .i64 0, .int .i64 0, .bool false, .bool false, .string ⟨#[]⟩, .string ⟨#[]⟩] #[.int .i64 0, .int .i64 0, .int .i64 0, .int .i64 0, .int .i64 0, .int .i64 0, .bool false, .bool false, .string ⟨#[]⟩, .string ⟨#[]⟩] rfl rfl hZ4 rfl (by kernel_rfl) (by simp [Value.oneCell']) ?_; intro w5 hZ5 ht5))
  have r0 := (hZ5.2 0 _ rfl).1
  have r1 := (hZ5.2 1 _ rfl).1
  have r2 := (hZ5.2 2 _ rfl).1
  have r3 := (hZ5.2 3 _ rfl).1
  have r4 := (hZ5.2 4 _ rfl).1
  have r5 := (hZ5.2 5 _ rfl).1
  have r6 := (hZ5.2 6 _ rfl).1
  have r7 := (hZ5.2 7 _ rfl).1
  have r8 := (hZ5.2 8 _ rfl).1
  have r9 := (hZ5.2 9 _ rfl).1
  exact bodyPost_ret (v := .tuple #[.agg #[.int .i64 0, .int .i64 0, .int .i64 0, .int .i64 0, .int .i64 0, .int .i64 0, .bool false, .bool false, .string ⟨#[]⟩, .string ⟨#[]⟩], .bool false, .int .i64 150]) (by simp [results, Try.results13, go_sem, r0, r1, r2, r3, r4, r5, r6, r7, r8, r9]) rfl ⟨rfl, w3, w4, hB2, htt, hs3, HF.out, ht5⟩
theorem move_f {w : World} {R B M : Nat} {ro pa la tu : Int} {l : List Pile} (h : BX w R B M ro pa la tu l) (now : Int) (h1 : now < la ∨ 1099511627776 < now) :
    Calls Try.prog 18 #[.pointer (some ⟨B, 0, none⟩), .int .i64 now] w fun e w' => e = .returned (.bool false) ∧ w' = w := by
  obtain ⟨c2, f2⟩ := h.box.2 2 _ rfl
  go_enter Try.func18, Try.ntmps18
  by_cases h2 : now < la
  · go_wp2
    go_ret
    exact ⟨rfl, rfl⟩
  · have h3 : 1099511627776 < now := by omega
    go_wp2
    go_ret
    exact ⟨rfl, rfl⟩
set_option maxHeartbeats 4000000 in
theorem take_chk (p : Pk) (hmay : p.may = false) (w : World) (R B M : Nat) (ro pa la tu : Int) (l : List Pile) (hBX : BX w R B M ro pa la tu l) (now : Int) (ho : p.op.size ≤ 1125899906842624) (hd : p.da.size ≤ 1125899906842624) :
    Calls Try.prog 13 #[.pointer (some ⟨B, 0, none⟩), .agg #[.int .i64 p.f, .int .i64 p.t, .int .i64 p.tl, .int .i64 p.pr, .int .i64 p.id, .int .i64 p.fr, .bool p.mo, .bool p.dn, .string p.op, .string p.da], .int .i64 now] w fun e w' => e = .returned (.tuple #[.agg #[.int .i64 0, .int .i64 0, .int .i64 0, .int .i64 0, .int .i64 0, .int .i64 0, .bool false, .bool false, .string ⟨#[]⟩, .string ⟨#[]⟩], .bool false, .int .i64 50]) ∧ Below w.heap.size w w' := by
  have hPb := (At.box w #[.int .i64 p.f, .int .i64 p.t, .int .i64 p.tl, .int .i64 p.pr, .int .i64 p.id, .int .i64 p.fr, .bool p.mo, .bool p.dn, .string p.op, .string p.da] 32).later (bel1 _ (.cells #[.int .i64 0, .int .i64 0, .int .i64 0, .int .i64 0, .int .i64 0, .int .i64 0, .bool false, .bool false, .string ⟨#[]⟩, .string ⟨#[]⟩] 32))
  have hZb := At.box2 w (.cells #[.int .i64 p.f, .int .i64 p.t, .int .i64 p.tl, .int .i64 p.pr, .int .i64 p.id, .int .i64 p.fr, .bool p.mo, .bool p.dn, .string p.op, .string p.da] 32) #[.int .i64 0, .int .i64 0, .int .i64 0, .int .i64 0, .int .i64 0, .int .i64 0, .bool false, .bool false, .string ⟨#[]⟩, .string ⟨#[]⟩] 32
  have hl0 := bt (bel1 w (.cells #[.int .i64 p.f, .int .i64 p.t, .int .i64 p.tl, .int .i64 p.pr, .int .i64 p.id, .int .i64 p.fr, .bool p.mo, .bool p.dn, .string p.op, .string p.da] 32)) (bel1 _ (.cells #[.int .i64 0, .int .i64 0, .int .i64 0, .int .i64 0, .int .i64 0, .int .i64 0, .bool false, .bool false, .string ⟨#[]⟩, .string ⟨#[]⟩] 32))
  clear hBX
  go_enter Try.func13, Try.ntmps13
  go_upto_region 1 with fail
  generalize (w.alloc (.cells #[.int .i64 p.f, .int .i64 p.t, .int .i64 p.tl, .int .i64 p.pr, .int .i64 p.id, .int .i64 p.fr, .bool p.mo, .bool p.dn, .string p.op, .string p.da] 32)).alloc (.cells #[.int .i64 0, .int .i64 0, .int .i64 0, .int .i64 0, .int .i64 0, .int .i64 0, .bool false, .bool false, .string ⟨#[]⟩, .string ⟨#[]⟩] 32) = W0 at *
  go_wp2_with (first | (refine wpList_load_at rfl 32 _ rfl _ w.heap.size #[.int .i64 p.f, .int .i64 p.t, .int .i64 p.tl, .int .i64 p.pr, .int .i64 p.id, .int .i64 p.fr, .bool p.mo, .bool p.dn, .string p.op, .string p.da] _ rfl hPb Try.underlying32 (by kernel_rfl) ?_) | fail)
  refine (chk_f (dn := p.dn) hmay _ ho hd).mono ?_
  rintro e w1 ⟨rfl, l1⟩
  replace hZb := hZb.later l1
  replace hl0 := bt hl0 l1
  clear hPb l1
  go_wp2_with (first
    | (refine wpList_store_at rfl 32 _ _ rfl _ (w.heap.size + 1) #[.int .i64 0, .int .i64 0, .int .i64 0, .int .i64 0, .int .i64 0, .int .i64 0, .bool false, .bool false, .string ⟨#[]⟩, .string ⟨#[]⟩] #[.int .i64 0, .int .i64 0, .int .i64 0, .int .i64 0, .int .i64 0, .int .i64 0, .bool false, .bool false, .string ⟨#[]⟩, .string ⟨#[]⟩] rfl rfl hZb rfl (by kernel_rfl) oneZ ?_; intro w5 hZ5 ht5))
  have r0 := (hZ5.2 0 _ rfl).1
  have r1 := (hZ5.2 1 _ rfl).1
  have r2 := (hZ5.2 2 _ rfl).1
  have r3 := (hZ5.2 3 _ rfl).1
  have r4 := (hZ5.2 4 _ rfl).1
  have r5 := (hZ5.2 5 _ rfl).1
  have r6 := (hZ5.2 6 _ rfl).1
  have r7 := (hZ5.2 7 _ rfl).1
  have r8 := (hZ5.2 8 _ rfl).1
  have r9 := (hZ5.2 9 _ rfl).1
  exact bodyPost_ret (v := .tuple #[.agg #[.int .i64 0, .int .i64 0, .int .i64 0, .int .i64 0, .int .i64 0, .int .i64 0, .bool false, .bool false, .string ⟨#[]⟩, .string ⟨#[]⟩], .bool false, .int .i64 50]) (by simp [results, Try.results13, go_sem, r0, r1, r2, r3, r4, r5, r6, r7, r8, r9]) rfl ⟨rfl, hl0.trans (below_turn ht5 (Nat.le_succ _) hl0.size)⟩
set_option maxHeartbeats 4000000 in
theorem take_tick (p : Pk) (hmay : p.may = true) (w : World) (R B M : Nat) (ro pa la tu : Int) (l : List Pile) (hBX : BX w R B M ro pa la tu l) (now : Int) (hn : now < la ∨ 1099511627776 < now) :
    Calls Try.prog 13 #[.pointer (some ⟨B, 0, none⟩), .agg #[.int .i64 p.f, .int .i64 p.t, .int .i64 p.tl, .int .i64 p.pr, .int .i64 p.id, .int .i64 p.fr, .bool p.mo, .bool p.dn, .string p.op, .string p.da], .int .i64 now] w fun e w' => e = .returned (.tuple #[.agg #[.int .i64 0, .int .i64 0, .int .i64 0, .int .i64 0, .int .i64 0, .int .i64 0, .bool false, .bool false, .string ⟨#[]⟩, .string ⟨#[]⟩], .bool false, .int .i64 1]) ∧ Below w.heap.size w w' := by
  have hp := may_fine hmay
  have ho : p.op.size ≤ 1125899906842624 := by have := hp.ol; omega
  have hd : p.da.size ≤ 1125899906842624 := by have := hp.dl; omega
  have hPb := (At.box w #[.int .i64 p.f, .int .i64 p.t, .int .i64 p.tl, .int .i64 p.pr, .int .i64 p.id, .int .i64 p.fr, .bool p.mo, .bool p.dn, .string p.op, .string p.da] 32).later (bel1 _ (.cells #[.int .i64 0, .int .i64 0, .int .i64 0, .int .i64 0, .int .i64 0, .int .i64 0, .bool false, .bool false, .string ⟨#[]⟩, .string ⟨#[]⟩] 32))
  have hZb := At.box2 w (.cells #[.int .i64 p.f, .int .i64 p.t, .int .i64 p.tl, .int .i64 p.pr, .int .i64 p.id, .int .i64 p.fr, .bool p.mo, .bool p.dn, .string p.op, .string p.da] 32) #[.int .i64 0, .int .i64 0, .int .i64 0, .int .i64 0, .int .i64 0, .int .i64 0, .bool false, .bool false, .string ⟨#[]⟩, .string ⟨#[]⟩] 32
  have hl0 := bt (bel1 w (.cells #[.int .i64 p.f, .int .i64 p.t, .int .i64 p.tl, .int .i64 p.pr, .int .i64 p.id, .int .i64 p.fr, .bool p.mo, .bool p.dn, .string p.op, .string p.da] 32)) (bel1 _ (.cells #[.int .i64 0, .int .i64 0, .int .i64 0, .int .i64 0, .int .i64 0, .int .i64 0, .bool false, .bool false, .string ⟨#[]⟩, .string ⟨#[]⟩] 32))
  have hB0 := hBX.later hl0
  clear hBX
  go_enter Try.func13, Try.ntmps13
  go_upto_region 1 with fail
  generalize (w.alloc (.cells #[.int .i64 p.f, .int .i64 p.t, .int .i64 p.tl, .int .i64 p.pr, .int .i64 p.id, .int .i64 p.fr, .bool p.mo, .bool p.dn, .string p.op, .string p.da] 32)).alloc (.cells #[.int .i64 0, .int .i64 0, .int .i64 0, .int .i64 0, .int .i64 0, .int .i64 0, .bool false, .bool false, .string ⟨#[]⟩, .string ⟨#[]⟩] 32) = W0 at *
  go_wp2_with (first | (refine wpList_load_at rfl 32 _ rfl _ w.heap.size #[.int .i64 p.f, .int .i64 p.t, .int .i64 p.tl, .int .i64 p.pr, .int .i64 p.id, .int .i64 p.fr, .bool p.mo, .bool p.dn, .string p.op, .string p.da] _ rfl hPb Try.underlying32 (by kernel_rfl) ?_) | fail)
  refine (chk_t (dn := p.dn) hmay _ ho hd).mono ?_
  rintro e w1 ⟨rfl, l1⟩
  replace hZb := hZb.later l1
  replace hB0 := hB0.later l1
  replace hl0 := bt hl0 l1
  clear hPb l1
  go_wp2_with fail
  refine (move_f hB0 now hn).mono ?_
  rintro e w2 ⟨rfl, rfl⟩
  clear hB0
  go_wp2_with (first
    | (refine wpList_store_at rfl 32 _ _ rfl _ (w.heap.size + 1) #[.int .i64 0, .int .i64 0, .int .i64 0, .int .i64 0, .int .i64 0, .int .i64 0, .bool false, .bool false, .string ⟨#[]⟩, .string ⟨#[]⟩] #[.int .i64 0, .int .i64 0, .int .i64 0, .int .i64 0, .int .i64 0, .int .i64 0, .bool false, .bool false, .string ⟨#[]⟩, .string ⟨#[]⟩] rfl rfl hZb rfl (by kernel_rfl) oneZ ?_; intro w5 hZ5 ht5))
  have r0 := (hZ5.2 0 _ rfl).1
  have r1 := (hZ5.2 1 _ rfl).1
  have r2 := (hZ5.2 2 _ rfl).1
  have r3 := (hZ5.2 3 _ rfl).1
  have r4 := (hZ5.2 4 _ rfl).1
  have r5 := (hZ5.2 5 _ rfl).1
  have r6 := (hZ5.2 6 _ rfl).1
  have r7 := (hZ5.2 7 _ rfl).1
  have r8 := (hZ5.2 8 _ rfl).1
  have r9 := (hZ5.2 9 _ rfl).1
  exact bodyPost_ret (v := .tuple #[.agg #[.int .i64 0, .int .i64 0, .int .i64 0, .int .i64 0, .int .i64 0, .int .i64 0, .bool false, .bool false, .string ⟨#[]⟩, .string ⟨#[]⟩], .bool false, .int .i64 1]) (by simp [results, Try.results13, go_sem, r0, r1, r2, r3, r4, r5, r6, r7, r8, r9]) rfl ⟨rfl, hl0.trans (below_turn ht5 (Nat.le_succ _) hl0.size)⟩
theorem tick_f {w : World} {R B M : Nat} {ro pa la tu : Int} {l : List Pile} (h : BX w R B M ro pa la tu l) (now : Int) (hn : now < la ∨ 1099511627776 < now) :
    Calls Try.prog 11 #[.pointer (some ⟨B, 0, none⟩), .int .i64 now] w fun e w' => e = .returned (.tuple #[.slice none 0 0, .int .i64 1]) ∧ w' = w := by
  go_enter Try.func11, Try.ntmps11
  go_wp2_with fail
  refine (move_f h now hn).mono ?_
  rintro e w1 ⟨rfl, rfl⟩
  go_wp2
  go_ret2
  exact ⟨rfl, rfl⟩
end Go.Proofs.Ytcjhniehbafhpaa

namespace Go.Proofs.Ytcjhniehbafhpaa
open Go.RowKit Go.Maps
set_option maxRecDepth 100000
set_option linter.unusedVariables false
set_option linter.unusedSimpArgs false

def newB (ro pa : Int) : Bool := decide ((1 ≤ ro ∧ ro ≤ 64) ∧ 1 ≤ pa ∧ pa ≤ 1048576)
theorem rnew_t (ro pa : Int) (w : World) (h : newB ro pa = true) :
    Calls Try.prog 8 #[.int .i64 ro, .int .i64 pa] w fun e w' => e = .returned (.tuple #[.pointer (some ⟨w.heap.size, 0, none⟩), .int .i64 0]) ∧ At w' w.heap.size #[.int .i64 ro, .int .i64 pa, .int .i64 0, .slice none 0 0] ∧ Below w.heap.size w w' := by
  obtain ⟨⟨a0, a1⟩, b0, b1⟩ := of_decide_eq_true h
  have n1 : ¬ ro < 1 := by omega
  have n2 : ¬ 64 < ro := by omega
  have n3 : ¬ pa < 1 := by omega
  have n4 : ¬ 1048576 < pa := by omega
  go_enter Try.func8, Try.ntmps8
  go_wp2
  go_ret2
  exact ⟨rfl, At.box _ _ _, bel1 w _⟩
theorem rnew_f (ro pa : Int) (w : World) (h : newB ro pa = false) :
    Calls Try.prog 8 #[.int .i64 ro, .int .i64 pa] w fun e w' => e = .returned (.tuple #[.pointer none, .int .i64 1]) ∧ w' = w := by
  have h' := of_decide_eq_false h
  go_enter Try.func8, Try.ntmps8
  by_cases a0 : ro < 1
  · go_wp2
    go_ret2
    exact ⟨rfl, rfl⟩
  · by_cases a1 : 64 < ro
    · go_wp2
      go_ret2
      exact ⟨rfl, rfl⟩
    · by_cases b0 : pa < 1
      · go_wp2
        go_ret2
        exact ⟨rfl, rfl⟩
      · have b1 : 1048576 < pa := by omega
        go_wp2
        go_ret2
        exact ⟨rfl, rfl⟩
theorem new_f (ro pa : Int) (w : World) (h : newB ro pa = false) :
    Calls Try.prog 7 #[.int .i64 ro, .int .i64 pa] w fun e w' => e = .returned (.tuple #[.pointer none, .int .i64 1]) ∧ w' = w := by
  have h' := of_decide_eq_false h
  go_enter Try.func7, Try.ntmps7
  by_cases a0 : ro < 1
  · go_wp2
    go_ret2
    exact ⟨rfl, rfl⟩
  · by_cases a1 : 64 < ro
    · go_wp2
      go_ret2
      exact ⟨rfl, rfl⟩
    · by_cases b0 : pa < 1
      · go_wp2
        go_ret2
        exact ⟨rfl, rfl⟩
      · have b1 : 1048576 < pa := by omega
        go_wp2
        go_ret2
        exact ⟨rfl, rfl⟩
theorem rtime_t (K : Nat) (ro pa la now : Int) (v : Value) (w : World) (hK : At w K #[.int .i64 ro, .int .i64 pa, .int .i64 la, v]) (h1 : la ≤ now) (h2 : now ≤ 1099511627776) :
    Calls Try.prog 20 #[.pointer (some ⟨K, 0, none⟩), .int .i64 now] w fun e w' => e = .returned (.int .i64 0) ∧ At w' K #[.int .i64 ro, .int .i64 pa, .int .i64 now, v] ∧ Turn (fun k => k = K) w w' := by
  obtain ⟨c2, f2⟩ := hK.2 2 _ rfl
  have n1 : ¬ now < la := by omega
  have n2 : ¬ 1099511627776 < now := by omega
  have HF : Hid (At (w.setCell ⟨K, 2, none⟩ (.int .i64 now)) K #[.int .i64 ro, .int .i64 pa, .int .i64 now, v] ∧ Turn (fun k => k = K) w (w.setCell ⟨K, 2, none⟩ (.int .i64 now))) := ⟨hK.set 2 _, turn_set _ _ _ _⟩
  clear hK
  go_enter Try.func20, Try.ntmps20
  go_wp2
  go_ret
  exact ⟨rfl, HF.out⟩
theorem rtime_f (K : Nat) (ro pa la now : Int) (v : Value) (w : World) (hK : At w K #[.int .i64 ro, .int .i64 pa, .int .i64 la, v]) (h1 : now < la ∨ 1099511627776 < now) :
    Calls Try.prog 20 #[.pointer (some ⟨K, 0, none⟩), .int .i64 now] w fun e w' => e = .returned (.int .i64 1) ∧ w' = w := by
  obtain ⟨c2, f2⟩ := hK.2 2 _ rfl
  go_enter Try.func20, Try.ntmps20
  by_cases h2 : now < la
  · go_wp2
    go_ret
    exact ⟨rfl, rfl⟩
  · have h3 : 1099511627776 < now := by omega
    go_wp2
    go_ret
    exact ⟨rfl, rfl⟩
theorem rend_any (p : Pk) (w : World) (h : p.Fine) : Calls Try.prog 42 #[.agg #[.int .i64 p.f, .int .i64 p.t, .int .i64 p.tl, .int .i64 p.pr, .int .i64 p.id, .int .i64 p.fr, .bool p.mo, .bool p.dn, .string p.op, .string p.da]] w fun e w' => e = .returned (.int .i64 p.en) ∧ Below w.heap.size w w' := by
  obtain ⟨⟨c0, c1, c2, c3, c4, c5, c6, c7, c8, c9⟩, -, -⟩ := (At.box w #[.int .i64 p.f, .int .i64 p.t, .int .i64 p.tl, .int .i64 p.pr, .int .i64 p.id, .int .i64 p.fr, .bool p.mo, .bool p.dn, .string p.op, .string p.da] 32).ten
  have hb := bel1 w (.cells #[.int .i64 p.f, .int .i64 p.t, .int .i64 p.tl, .int .i64 p.pr, .int .i64 p.id, .int .i64 p.fr, .bool p.mo, .bool p.dn, .string p.op, .string p.da] 32)
  have e1 : p.en = 8 * p.fr + (p.da.size : Int) := by unfold Pk.en; omega
  rw [e1]
  have h1 := h.f0
  have h2 := h.f1
  have h3 : (p.da.size : Int) ≤ 65535 := by have := h.dl; omega
  go_enter Try.func42, Try.ntmps42
  go_upto_region 1 with fail
  generalize w.alloc (.cells #[.int .i64 p.f, .int .i64 p.t, .int .i64 p.tl, .int .i64 p.pr, .int .i64 p.id, .int .i64 p.fr, .bool p.mo, .bool p.dn, .string p.op, .string p.da] 32) = W at *
  go_wp2
  go_ret
  exact ⟨rfl, hb⟩
def firstL (ps : List Pk) : Option Pk := ps.find? (fun q => decide (q.fr = 0))
end Go.Proofs.Ytcjhniehbafhpaa
