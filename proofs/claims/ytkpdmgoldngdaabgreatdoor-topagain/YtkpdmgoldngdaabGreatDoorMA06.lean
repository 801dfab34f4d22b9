/- the texts Og, Re, in part, merged by program -/
import Derived.Test.YtkpdmgoldngdaabGreatDoorProg
import Derived.Test.YtkpdmgoldngdaabGreatDoorRows
import Derived.WalkKit
import Derived.WalkSpells
import Derived.RegionTactic
import Derived.Below
import Derived.Laws.OwnMore
import Derived.Laws.AppendOwn
import Derived.Laws.AppendOwnNone
import Derived.Deep.LoopGhost
import Derived.Deep.RegionHeld3
import Derived.Deep.QuietTactic
import Derived.BigQuiet
import Derived.WalkSmall
import Derived.Laws.StructEq
import Derived.Shelf.Strings.Repeat
import Derived.Deep.Cut
import Derived.Laws.Tables
import Derived.Great.BuildSlice
import Derived.BigRegion
import Derived.Test.YtkpdmgoldngdaabGreatDoorMA01
import Derived.Test.YtkpdmgoldngdaabGreatDoorMA04
import Derived.Test.YtkpdmgoldngdaabGreatDoorMA05
namespace Go.Proofs.YtkpdmgoldngdaabGreatDoor
open Go.RowKit
set_option maxRecDepth 100000

theorem keepS {w W x : World} {p q : Nat} {A B : Array Value} {v v' : Value} {rs rs' : List (Int × Int)} (hb : Below W.heap.size W x) (h : Below w.heap.size w W ∧ At W p A ∧ At W q B ∧ Rgs W v rs ∧ Rgs W v' rs') : Below w.heap.size w x ∧ At x p A ∧ At x q B ∧ Rgs x v rs ∧ Rgs x v' rs' :=
  ⟨bt h.1 hb, h.2.1.later hb, h.2.2.1.later hb, h.2.2.2.1.later hb, h.2.2.2.2.later hb⟩
set_option maxRecDepth 100000 in
set_option maxHeartbeats 4000000 in
theorem same_yy (m c t ec : Int) (sd ok sp : Bool) (a : Option Addr) (cap : Nat) (rs : List (Int × Int)) (m' c' t' ec' : Int) (sd' ok' sp' : Bool) (a' : Option Addr) (cap' : Nat) (rs' : List (Int × Int)) (w : World) (hv : Rgs w (.slice a rs.length cap) rs) (hv' : Rgs w (.slice a' rs'.length cap') rs') (hn : rs.length ≤ 17592186044416) (hn' : rs'.length ≤ 17592186044416) (h1 : sameN m c t ec m' c' t' ec' = true) (h2 : sameM sd ok sp sd' ok' sp' = true) :
    Calls Tryz.prog 24 #[.agg #[.int .i64 m, .int .i64 c, .int .i64 t, .int .i64 ec, .bool sd, .bool ok, .bool sp, (.slice a rs.length cap)], .agg #[.int .i64 m', .int .i64 c', .int .i64 t', .int .i64 ec', .bool sd', .bool ok', .bool sp', (.slice a' rs'.length cap')]] w fun e w' => e = .returned (.bool (decide (rs = rs'))) ∧ Below w.heap.size w w' := by
  have hb1 := bel1 w (.cells #[.int .i64 m, .int .i64 c, .int .i64 t, .int .i64 ec, .bool sd, .bool ok, .bool sp, (.slice a rs.length cap)] 33)
  have hb2 := bel1 (w.alloc (.cells #[.int .i64 m, .int .i64 c, .int .i64 t, .int .i64 ec, .bool sd, .bool ok, .bool sp, (.slice a rs.length cap)] 33)) (.cells #[.int .i64 m', .int .i64 c', .int .i64 t', .int .i64 ec', .bool sd', .bool ok', .bool sp', (.slice a' rs'.length cap')] 33)
  have hd : Below ((w.alloc (.cells #[.int .i64 m, .int .i64 c, .int .i64 t, .int .i64 ec, .bool sd, .bool ok, .bool sp, (.slice a rs.length cap)] 33)).alloc (.cells #[.int .i64 m', .int .i64 c', .int .i64 t', .int .i64 ec', .bool sd', .bool ok', .bool sp', (.slice a' rs'.length cap')] 33)).heap.size ((w.alloc (.cells #[.int .i64 m, .int .i64 c, .int .i64 t, .int .i64 ec, .bool sd, .bool ok, .bool sp, (.slice a rs.length cap)] 33)).alloc (.cells #[.int .i64 m', .int .i64 c', .int .i64 t', .int .i64 ec', .bool sd', .bool ok', .bool sp', (.slice a' rs'.length cap')] 33)) ((w.alloc (.cells #[.int .i64 m, .int .i64 c, .int .i64 t, .int .i64 ec, .bool sd, .bool ok, .bool sp, (.slice a rs.length cap)] 33)).alloc (.cells #[.int .i64 m', .int .i64 c', .int .i64 t', .int .i64 ec', .bool sd', .bool ok', .bool sp', (.slice a' rs'.length cap')] 33)).drew := (Below.refl _ _).drew
  have HS0 : Hid (Below w.heap.size w ((w.alloc (.cells #[.int .i64 m, .int .i64 c, .int .i64 t, .int .i64 ec, .bool sd, .bool ok, .bool sp, (.slice a rs.length cap)] 33)).alloc (.cells #[.int .i64 m', .int .i64 c', .int .i64 t', .int .i64 ec', .bool sd', .bool ok', .bool sp', (.slice a' rs'.length cap')] 33)).drew ∧ At ((w.alloc (.cells #[.int .i64 m, .int .i64 c, .int .i64 t, .int .i64 ec, .bool sd, .bool ok, .bool sp, (.slice a rs.length cap)] 33)).alloc (.cells #[.int .i64 m', .int .i64 c', .int .i64 t', .int .i64 ec', .bool sd', .bool ok', .bool sp', (.slice a' rs'.length cap')] 33)).drew w.heap.size #[.int .i64 m, .int .i64 c, .int .i64 t, .int .i64 ec, .bool sd, .bool ok, .bool sp, (.slice a rs.length cap)] ∧ At ((w.alloc (.cells #[.int .i64 m, .int .i64 c, .int .i64 t, .int .i64 ec, .bool sd, .bool ok, .bool sp, (.slice a rs.length cap)] 33)).alloc (.cells #[.int .i64 m', .int .i64 c', .int .i64 t', .int .i64 ec', .bool sd', .bool ok', .bool sp', (.slice a' rs'.length cap')] 33)).drew (w.heap.size + 1) #[.int .i64 m', .int .i64 c', .int .i64 t', .int .i64 ec', .bool sd', .bool ok', .bool sp', (.slice a' rs'.length cap')] ∧ Rgs ((w.alloc (.cells #[.int .i64 m, .int .i64 c, .int .i64 t, .int .i64 ec, .bool sd, .bool ok, .bool sp, (.slice a rs.length cap)] 33)).alloc (.cells #[.int .i64 m', .int .i64 c', .int .i64 t', .int .i64 ec', .bool sd', .bool ok', .bool sp', (.slice a' rs'.length cap')] 33)).drew (.slice a rs.length cap) rs ∧ Rgs ((w.alloc (.cells #[.int .i64 m, .int .i64 c, .int .i64 t, .int .i64 ec, .bool sd, .bool ok, .bool sp, (.slice a rs.length cap)] 33)).alloc (.cells #[.int .i64 m', .int .i64 c', .int .i64 t', .int .i64 ec', .bool sd', .bool ok', .bool sp', (.slice a' rs'.length cap')] 33)).drew (.slice a' rs'.length cap') rs') :=
    ⟨bt (bt hb1 hb2) hd, ((At.box w _ 33).later hb2).later hd, (At.box2 w _ _ 33).later hd, ((hv.later hb1).later hb2).later hd, ((hv'.later hb1).later hb2).later hd⟩
  have H1 : Hid (decide (m = m' ∧ c = c' ∧ t = t' ∧ ec = ec') = true) := h1
  have H2 : Hid (decide (sd = sd' ∧ ok = ok' ∧ sp = sp') = true) := h2
  clear h2
  have HN : Hid (rs.length ≤ 17592186044416) := hn
  have HN' : Hid (rs'.length ≤ 17592186044416) := hn'
  clear hb1 hb2 hd hv hv' hn hn' h1
  go_enter Tryz.func24, Tryz.ntmps24
  go_wp2
  refine wp_region_any (by kernel_rfl) ?_
  refine region_facts (fun W => Below w.heap.size w W ∧ At W w.heap.size #[.int .i64 m, .int .i64 c, .int .i64 t, .int .i64 ec, .bool sd, .bool ok, .bool sp, (.slice a rs.length cap)] ∧ At W (w.heap.size + 1) #[.int .i64 m', .int .i64 c', .int .i64 t', .int .i64 ec', .bool sd', .bool ok', .bool sp', (.slice a' rs'.length cap')] ∧ Rgs W (.slice a rs.length cap) rs ∧ Rgs W (.slice a' rs'.length cap') rs') (GV (fun i => match i with | 0 => .agg #[.int .i64 m, .int .i64 c, .int .i64 t, .int .i64 ec, .bool sd, .bool ok, .bool sp, (.slice a rs.length cap)] | 1 => .agg #[.int .i64 m, .int .i64 c, .int .i64 t, .int .i64 ec] | 2 => .agg #[.int .i64 m', .int .i64 c', .int .i64 t', .int .i64 ec', .bool sd', .bool ok', .bool sp', (.slice a' rs'.length cap')] | 3 => .agg #[.int .i64 m', .int .i64 c', .int .i64 t', .int .i64 ec'] | 4 => .bool true | 5 => .bool true | 6 => .agg #[.int .i64 m, .int .i64 c, .int .i64 t, .int .i64 ec, .bool sd, .bool ok, .bool sp, (.slice a rs.length cap)] | 7 => .agg #[.bool sd, .bool ok, .bool sp] | 8 => .agg #[.int .i64 m', .int .i64 c', .int .i64 t', .int .i64 ec', .bool sd', .bool ok', .bool sp', (.slice a' rs'.length cap')] | 9 => .agg #[.bool sd', .bool ok', .bool sp'] | 10 => .bool true | 11 => .bool true | 12 => .bool true | 13 => .pointer (some ⟨w.heap.size, 7, none⟩) | 14 => .slice a rs.length cap | 15 => .pointer (some ⟨w.heap.size + 1, 7, none⟩) | 16 => .slice a' rs'.length cap' | 17 => .bool (decide (rs = rs')) | 18 => .bool (decide (rs = rs')) | 19 => .bool (decide (rs = rs')) | _ => undef) (fun _ => none)) (n := 24) (by kernel_rfl) rfl (by kernel_rfl) (GV_later _ _) ?_ ?_ HS0.out (Nat.le_refl _)
  · clear HS0
    refine ⟨?_, ?_, ?_, ?_, ?_, ?_, ?_, ?_, ?_, ?_, ?_, ?_, ?_, ?_, ?_, ?_, ?_, ?_, ?_, ?_, trivial⟩
    · intro ac w1 hS hT hB hD K hK
      rw [if_pos (by rfl)]
      have d2 : ac.tmps.getD 2 undef = .pointer (some ⟨w.heap.size, 0, none⟩) := hB 2 (by kernel_rfl)
      clear hB hD hT
      have hc := hS.2.1.eight.1
      go_simp
      exact hK _ _ hS (Below.refl _ _) rfl
    · intro ac w1 hS hT hB hD K hK
      rw [if_pos (by rfl)]
      have d5 : ac.tmps.getD 5 undef = .agg #[.int .i64 m, .int .i64 c, .int .i64 t, .int .i64 ec, .bool sd, .bool ok, .bool sp, (.slice a rs.length cap)] := hD ⟨0, .data⟩ (by simp) rfl _ 5 rfl rfl
      clear hB hD hT
      go_simp
      refine (numbers_any _ _ _ _ _ _ _ _ _).mono ?_
      rintro e w' ⟨rfl, hb⟩
      exact hK _ _ (keepS hb hS) hb rfl
    · intro ac w1 hS hT hB hD K hK
      rw [if_pos (by rfl)]
      have d3 : ac.tmps.getD 3 undef = .pointer (some ⟨w.heap.size + 1, 0, none⟩) := hB 3 (by kernel_rfl)
      clear hB hD hT
      have hc := hS.2.2.1.eight.1
      go_simp
      exact hK _ _ hS (Below.refl _ _) rfl
    · intro ac w1 hS hT hB hD K hK
      rw [if_pos (by rfl)]
      have d7 : ac.tmps.getD 7 undef = .agg #[.int .i64 m', .int .i64 c', .int .i64 t', .int .i64 ec', .bool sd', .bool ok', .bool sp', (.slice a' rs'.length cap')] := hD ⟨2, .data⟩ (by simp) rfl _ 7 rfl rfl
      clear hB hD hT
      go_simp
      refine (numbers_any _ _ _ _ _ _ _ _ _).mono ?_
      rintro e w' ⟨rfl, hb⟩
      exact hK _ _ (keepS hb hS) hb rfl
    · intro ac w1 hS hT hB hD K hK
      rw [if_pos (by rfl)]
      have d6 : ac.tmps.getD 6 undef = .agg #[.int .i64 m, .int .i64 c, .int .i64 t, .int .i64 ec] := hD ⟨1, .data⟩ (by simp) rfl _ 6 rfl rfl
      have d8 : ac.tmps.getD 8 undef = .agg #[.int .i64 m', .int .i64 c', .int .i64 t', .int .i64 ec'] := hD ⟨3, .data⟩ (by simp) rfl _ 8 rfl rfl
      clear hB hD hT
      have hq := eq57 m c t ec m' c' t' ec' w1
      rw [H1.out] at hq
      go_simp
      exact hK _ _ hS (Below.refl _ _) rfl
    · intro ac w1 hS hT hB hD K hK
      rw [if_pos (by rfl)]
      have d9 : ac.tmps.getD 9 undef = .bool true := hD ⟨4, .data⟩ (by simp) rfl _ 9 rfl rfl
      clear hB hD hT
      go_simp
      exact hK _ _ hS (Below.refl _ _) rfl
    · intro ac w1 hS hT hB hD K hK
      have g10 : ac.tmps.getD 10 undef = .bool true := hD ⟨5, .guard⟩ (by simp) rfl _ 10 rfl rfl
      rw [if_pos (want_t (j := 5) (d := 10) rfl rfl g10)]
      clear g10
      have d2 : ac.tmps.getD 2 undef = .pointer (some ⟨w.heap.size, 0, none⟩) := hB 2 (by kernel_rfl)
      clear hB hD hT
      have hc := hS.2.1.eight.1
      go_simp
      exact hK _ _ hS (Below.refl _ _) rfl
    · intro ac w1 hS hT hB hD K hK
      have g10 : ac.tmps.getD 10 undef = .bool true := hD ⟨5, .guard⟩ (by simp) rfl _ 10 rfl rfl
      rw [if_pos (want_t (j := 5) (d := 10) rfl rfl g10)]
      clear g10
      have d11 : ac.tmps.getD 11 undef = .agg #[.int .i64 m, .int .i64 c, .int .i64 t, .int .i64 ec, .bool sd, .bool ok, .bool sp, (.slice a rs.length cap)] := hD ⟨6, .data⟩ (by simp) rfl _ 11 rfl rfl
      clear hB hD hT
      go_simp
      refine (marks_any _ _ _ _ _ _ _ _ _).mono ?_
      rintro e w' ⟨rfl, hb⟩
      exact hK _ _ (keepS hb hS) hb rfl
    · intro ac w1 hS hT hB hD K hK
      have g10 : ac.tmps.getD 10 undef = .bool true := hD ⟨5, .guard⟩ (by simp) rfl _ 10 rfl rfl
      rw [if_pos (want_t (j := 5) (d := 10) rfl rfl g10)]
      clear g10
      have d3 : ac.tmps.getD 3 undef = .pointer (some ⟨w.heap.size + 1, 0, none⟩) := hB 3 (by kernel_rfl)
      clear hB hD hT
      have hc := hS.2.2.1.eight.1
      go_simp
      exact hK _ _ hS (Below.refl _ _) rfl
    · intro ac w1 hS hT hB hD K hK
      have g10 : ac.tmps.getD 10 undef = .bool true := hD ⟨5, .guard⟩ (by simp) rfl _ 10 rfl rfl
      rw [if_pos (want_t (j := 5) (d := 10) rfl rfl g10)]
      clear g10
      have d13 : ac.tmps.getD 13 undef = .agg #[.int .i64 m', .int .i64 c', .int .i64 t', .int .i64 ec', .bool sd', .bool ok', .bool sp', (.slice a' rs'.length cap')] := hD ⟨8, .data⟩ (by simp) rfl _ 13 rfl rfl
      clear hB hD hT
      go_simp
      refine (marks_any _ _ _ _ _ _ _ _ _).mono ?_
      rintro e w' ⟨rfl, hb⟩
      exact hK _ _ (keepS hb hS) hb rfl
    · intro ac w1 hS hT hB hD K hK
      have g10 : ac.tmps.getD 10 undef = .bool true := hD ⟨5, .guard⟩ (by simp) rfl _ 10 rfl rfl
      rw [if_pos (want_t (j := 5) (d := 10) rfl rfl g10)]
      clear g10
      have d12 : ac.tmps.getD 12 undef = .agg #[.bool sd, .bool ok, .bool sp] := hD ⟨7, .data⟩ (by simp) rfl _ 12 rfl rfl
      have d14 : ac.tmps.getD 14 undef = .agg #[.bool sd', .bool ok', .bool sp'] := hD ⟨9, .data⟩ (by simp) rfl _ 14 rfl rfl
      clear hB hD hT
      have hq := eq59 sd ok sp sd' ok' sp' w1
      rw [H2.out] at hq
      go_simp
      exact hK _ _ hS (Below.refl _ _) rfl
    · intro ac w1 hS hT hB hD K hK
      rw [if_pos (by rfl)]
      have d10 : ac.tmps.getD 10 undef = .bool true := hD ⟨5, .data⟩ (by simp) rfl _ 10 rfl rfl
      have d15 : ac.tmps.getD 15 undef = .bool true := hD ⟨10, .data⟩ (by simp) rfl _ 15 rfl rfl
      clear hB hD hT
      go_simp
      exact hK _ _ hS (Below.refl _ _) rfl
    · intro ac w1 hS hT hB hD K hK
      rw [if_pos (by rfl)]
      have d16 : ac.tmps.getD 16 undef = .bool true := hD ⟨11, .data⟩ (by simp) rfl _ 16 rfl rfl
      clear hB hD hT
      go_simp
      exact hK _ _ hS (Below.refl _ _) rfl
    · intro ac w1 hS hT hB hD K hK
      have g17 : ac.tmps.getD 17 undef = .bool true := hD ⟨12, .guard⟩ (by simp) rfl _ 17 rfl rfl
      rw [if_pos (want_t (j := 12) (d := 17) rfl rfl g17)]
      clear g17
      have d2 : ac.tmps.getD 2 undef = .pointer (some ⟨w.heap.size, 0, none⟩) := hB 2 (by kernel_rfl)
      clear hB hD hT
      go_simp
      exact hK _ _ hS (Below.refl _ _) rfl
    · intro ac w1 hS hT hB hD K hK
      have g17 : ac.tmps.getD 17 undef = .bool true := hD ⟨12, .guard⟩ (by simp) rfl _ 17 rfl rfl
      rw [if_pos (want_t (j := 12) (d := 17) rfl rfl g17)]
      clear g17
      have d18 : ac.tmps.getD 18 undef = .pointer (some ⟨w.heap.size, 7, none⟩) := hD ⟨13, .data⟩ (by simp) rfl _ 18 rfl rfl
      clear hB hD hT
      have hc := hS.2.1.eight.1
      go_simp
      exact hK _ _ hS (Below.refl _ _) rfl
    · intro ac w1 hS hT hB hD K hK
      have g17 : ac.tmps.getD 17 undef = .bool true := hD ⟨12, .guard⟩ (by simp) rfl _ 17 rfl rfl
      rw [if_pos (want_t (j := 12) (d := 17) rfl rfl g17)]
      clear g17
      have d3 : ac.tmps.getD 3 undef = .pointer (some ⟨w.heap.size + 1, 0, none⟩) := hB 3 (by kernel_rfl)
      clear hB hD hT
      go_simp
      exact hK _ _ hS (Below.refl _ _) rfl
    · intro ac w1 hS hT hB hD K hK
      have g17 : ac.tmps.getD 17 undef = .bool true := hD ⟨12, .guard⟩ (by simp) rfl _ 17 rfl rfl
      rw [if_pos (want_t (j := 12) (d := 17) rfl rfl g17)]
      clear g17
      have d20 : ac.tmps.getD 20 undef = .pointer (some ⟨w.heap.size + 1, 7, none⟩) := hD ⟨15, .data⟩ (by simp) rfl _ 20 rfl rfl
      clear hB hD hT
      have hc := hS.2.2.1.eight.1
      go_simp
      exact hK _ _ hS (Below.refl _ _) rfl
    · intro ac w1 hS hT hB hD K hK
      have g17 : ac.tmps.getD 17 undef = .bool true := hD ⟨12, .guard⟩ (by simp) rfl _ 17 rfl rfl
      rw [if_pos (want_t (j := 12) (d := 17) rfl rfl g17)]
      clear g17
      have d19 : ac.tmps.getD 19 undef = .slice a rs.length cap := hD ⟨14, .data⟩ (by simp) rfl _ 19 rfl rfl
      have d21 : ac.tmps.getD 21 undef = .slice a' rs'.length cap' := hD ⟨16, .data⟩ (by simp) rfl _ 21 rfl rfl
      clear hB hD hT
      go_simp
      refine (equal_any _ _ rs rs' _ hS.2.2.2.1 hS.2.2.2.2 HN.out HN'.out).mono ?_
      rintro e w' ⟨rfl, hb⟩
      exact hK _ _ (keepS hb hS) hb rfl
    · intro ac w1 hS hT hB hD K hK
      rw [if_pos (by rfl)]
      have d17 : ac.tmps.getD 17 undef = .bool true := hD ⟨12, .data⟩ (by simp) rfl _ 17 rfl rfl
      have d22 : ac.tmps.getD 22 undef = .bool (decide (rs = rs')) := hD ⟨17, .data⟩ (by simp) rfl _ 22 rfl rfl
      clear hB hD hT
      go_simp
      exact hK _ _ hS (Below.refl _ _) rfl
    · intro ac w1 hS hT hB hD K hK
      rw [if_pos (by rfl)]
      have d23 : ac.tmps.getD 23 undef = .bool (decide (rs = rs')) := hD ⟨18, .data⟩ (by simp) rfl _ 23 rfl rfl
      clear hB hD hT
      go_simp
      exact hK _ _ hS (Below.refl _ _) rfl
  · intro a1 w1 hS hT hdf hB hF
    clear HS0
    obtain ⟨⟨l⟩, df⟩ := a1
    match l, hT with
    | x0 :: x1 :: x2 :: x3 :: x4 :: x5 :: x6 :: x7 :: x8 :: x9 :: x10 :: x11 :: x12 :: x13 :: x14 :: x15 :: x16 :: x17 :: x18 :: x19 :: x20 :: x21 :: x22 :: x23 :: [], _ =>
      have s4 : x4 = .bool (decide (rs = rs')) := hF 19 _ 4 rfl rfl
      have sd : df = [] := hdf
      subst s4 sd
      clear hB hF
      go_wp2
      go_ret
      exact ⟨rfl, hS.1⟩
set_option maxRecDepth 100000 in
set_option maxHeartbeats 4000000 in
theorem same_yn (m c t ec : Int) (sd ok sp : Bool) (a : Option Addr) (cap : Nat) (rs : List (Int × Int)) (m' c' t' ec' : Int) (sd' ok' sp' : Bool) (a' : Option Addr) (cap' : Nat) (rs' : List (Int × Int)) (w : World) (hv : Rgs w (.slice a rs.length cap) rs) (hv' : Rgs w (.slice a' rs'.length cap') rs') (hn : rs.length ≤ 17592186044416) (hn' : rs'.length ≤ 17592186044416) (h1 : sameN m c t ec m' c' t' ec' = true) (h2 : sameM sd ok sp sd' ok' sp' = false) :
    Calls Tryz.prog 24 #[.agg #[.int .i64 m, .int .i64 c, .int .i64 t, .int .i64 ec, .bool sd, .bool ok, .bool sp, (.slice a rs.length cap)], .agg #[.int .i64 m', .int .i64 c', .int .i64 t', .int .i64 ec', .bool sd', .bool ok', .bool sp', (.slice a' rs'.length cap')]] w fun e w' => e = .returned (.bool false) ∧ Below w.heap.size w w' := by
  have hb1 := bel1 w (.cells #[.int .i64 m, .int .i64 c, .int .i64 t, .int .i64 ec, .bool sd, .bool ok, .bool sp, (.slice a rs.length cap)] 33)
  have hb2 := bel1 (w.alloc (.cells #[.int .i64 m, .int .i64 c, .int .i64 t, .int .i64 ec, .bool sd, .bool ok, .bool sp, (.slice a rs.length cap)] 33)) (.cells #[.int .i64 m', .int .i64 c', .int .i64 t', .int .i64 ec', .bool sd', .bool ok', .bool sp', (.slice a' rs'.length cap')] 33)
  have hd : Below ((w.alloc (.cells #[.int .i64 m, .int .i64 c, .int .i64 t, .int .i64 ec, .bool sd, .bool ok, .bool sp, (.slice a rs.length cap)] 33)).alloc (.cells #[.int .i64 m', .int .i64 c', .int .i64 t', .int .i64 ec', .bool sd', .bool ok', .bool sp', (.slice a' rs'.length cap')] 33)).heap.size ((w.alloc (.cells #[.int .i64 m, .int .i64 c, .int .i64 t, .int .i64 ec, .bool sd, .bool ok, .bool sp, (.slice a rs.length cap)] 33)).alloc (.cells #[.int .i64 m', .int .i64 c', .int .i64 t', .int .i64 ec', .bool sd', .bool ok', .bool sp', (.slice a' rs'.length cap')] 33)) ((w.alloc (.cells #[.int .i64 m, .int .i64 c, .int .i64 t, .int .i64 ec, .bool sd, .bool ok, .bool sp, (.slice a rs.length cap)] 33)).alloc (.cells #[.int .i64 m', .int .i64 c', .int .i64 t', .int .i64 ec', .bool sd', .bool ok', .bool sp', (.slice a' rs'.length cap')] 33)).drew := (Below.refl _ _).drew
  have HS0 : Hid (Below w.heap.size w ((w.alloc (.cells #[.int .i64 m, .int .i64 c, .int .i64 t, .int .i64 ec, .bool sd, .bool ok, .bool sp, (.slice a rs.length cap)] 33)).alloc (.cells #[.int .i64 m', .int .i64 c', .int .i64 t', .int .i64 ec', .bool sd', .bool ok', .bool sp', (.slice a' rs'.length cap')] 33)).drew ∧ At ((w.alloc (.cells #[.int .i64 m, .int .i64 c, .int .i64 t, .int .i64 ec, .bool sd, .bool ok, .bool sp, (.slice a rs.length cap)] 33)).alloc (.cells #[.int .i64 m', .int .i64 c', .int .i64 t', .int .i64 ec', .bool sd', .bool ok', .bool sp', (.slice a' rs'.length cap')] 33)).drew w.heap.size #[.int .i64 m, .int .i64 c, .int .i64 t, .int .i64 ec, .bool sd, .bool ok, .bool sp, (.slice a rs.length cap)] ∧ At ((w.alloc (.cells #[.int .i64 m, .int .i64 c, .int .i64 t, .int .i64 ec, .bool sd, .bool ok, .bool sp, (.slice a rs.length cap)] 33)).alloc (.cells #[.int .i64 m', .int .i64 c', .int .i64 t', .int .i64 ec', .bool sd', .bool ok', .bool sp', (.slice a' rs'.length cap')] 33)).drew (w.heap.size + 1) #[.int .i64 m', .int .i64 c', .int .i64 t', .int .i64 ec', .bool sd', .bool ok', .bool sp', (.slice a' rs'.length cap')] ∧ Rgs ((w.alloc (.cells #[.int .i64 m, .int .i64 c, .int .i64 t, .int .i64 ec, .bool sd, .bool ok, .bool sp, (.slice a rs.length cap)] 33)).alloc (.cells #[.int .i64 m', .int .i64 c', .int .i64 t', .int .i64 ec', .bool sd', .bool ok', .bool sp', (.slice a' rs'.length cap')] 33)).drew (.slice a rs.length cap) rs ∧ Rgs ((w.alloc (.cells #[.int .i64 m, .int .i64 c, .int .i64 t, .int .i64 ec, .bool sd, .bool ok, .bool sp, (.slice a rs.length cap)] 33)).alloc (.cells #[.int .i64 m', .int .i64 c', .int .i64 t', .int .i64 ec', .bool sd', .bool ok', .bool sp', (.slice a' rs'.length cap')] 33)).drew (.slice a' rs'.length cap') rs') :=
    ⟨bt (bt hb1 hb2) hd, ((At.box w _ 33).later hb2).later hd, (At.box2 w _ _ 33).later hd, ((hv.later hb1).later hb2).later hd, ((hv'.later hb1).later hb2).later hd⟩
  have H1 : Hid (decide (m = m' ∧ c = c' ∧ t = t' ∧ ec = ec') = true) := h1
  have H2 : Hid (decide (sd = sd' ∧ ok = ok' ∧ sp = sp') = false) := h2
  clear h2
  have HN : Hid (rs.length ≤ 17592186044416) := hn
  have HN' : Hid (rs'.length ≤ 17592186044416) := hn'
  clear hb1 hb2 hd hv hv' hn hn' h1
  go_enter Tryz.func24, Tryz.ntmps24
  go_wp2
  refine wp_region_any (by kernel_rfl) ?_
  refine region_facts (fun W => Below w.heap.size w W ∧ At W w.heap.size #[.int .i64 m, .int .i64 c, .int .i64 t, .int .i64 ec, .bool sd, .bool ok, .bool sp, (.slice a rs.length cap)] ∧ At W (w.heap.size + 1) #[.int .i64 m', .int .i64 c', .int .i64 t', .int .i64 ec', .bool sd', .bool ok', .bool sp', (.slice a' rs'.length cap')] ∧ Rgs W (.slice a rs.length cap) rs ∧ Rgs W (.slice a' rs'.length cap') rs') (GV (fun i => match i with | 0 => .agg #[.int .i64 m, .int .i64 c, .int .i64 t, .int .i64 ec, .bool sd, .bool ok, .bool sp, (.slice a rs.length cap)] | 1 => .agg #[.int .i64 m, .int .i64 c, .int .i64 t, .int .i64 ec] | 2 => .agg #[.int .i64 m', .int .i64 c', .int .i64 t', .int .i64 ec', .bool sd', .bool ok', .bool sp', (.slice a' rs'.length cap')] | 3 => .agg #[.int .i64 m', .int .i64 c', .int .i64 t', .int .i64 ec'] | 4 => .bool true | 5 => .bool true | 6 => .agg #[.int .i64 m, .int .i64 c, .int .i64 t, .int .i64 ec, .bool sd, .bool ok, .bool sp, (.slice a rs.length cap)] | 7 => .agg #[.bool sd, .bool ok, .bool sp] | 8 => .agg #[.int .i64 m', .int .i64 c', .int .i64 t', .int .i64 ec', .bool sd', .bool ok', .bool sp', (.slice a' rs'.length cap')] | 9 => .agg #[.bool sd', .bool ok', .bool sp'] | 10 => .bool false | 11 => .bool false | 12 => .bool false | 18 => .bool false | 19 => .bool false | _ => undef) (fun _ => none)) (n := 24) (by kernel_rfl) rfl (by kernel_rfl) (GV_later _ _) ?_ ?_ HS0.out (Nat.le_refl _)
  · clear HS0
    refine ⟨?_, ?_, ?_, ?_, ?_, ?_, ?_, ?_, ?_, ?_, ?_, ?_, ?_, ?_, ?_, ?_, ?_, ?_, ?_, ?_, trivial⟩
    · intro ac w1 hS hT hB hD K hK
      rw [if_pos (by rfl)]
      have d2 : ac.tmps.getD 2 undef = .pointer (some ⟨w.heap.size, 0, none⟩) := hB 2 (by kernel_rfl)
      clear hB hD hT
      have hc := hS.2.1.eight.1
      go_simp
      exact hK _ _ hS (Below.refl _ _) rfl
    · intro ac w1 hS hT hB hD K hK
      rw [if_pos (by rfl)]
      have d5 : ac.tmps.getD 5 undef = .agg #[.int .i64 m, .int .i64 c, .int .i64 t, .int .i64 ec, .bool sd, .bool ok, .bool sp, (.slice a rs.length cap)] := hD ⟨0, .data⟩ (by simp) rfl _ 5 rfl rfl
      clear hB hD hT
      go_simp
      refine (numbers_any _ _ _ _ _ _ _ _ _).mono ?_
      rintro e w' ⟨rfl, hb⟩
      exact hK _ _ (keepS hb hS) hb rfl
    · intro ac w1 hS hT hB hD K hK
      rw [if_pos (by rfl)]
      have d3 : ac.tmps.getD 3 undef = .pointer (some ⟨w.heap.size + 1, 0, none⟩) := hB 3 (by kernel_rfl)
      clear hB hD hT
      have hc := hS.2.2.1.eight.1
      go_simp
      exact hK _ _ hS (Below.refl _ _) rfl
    · intro ac w1 hS hT hB hD K hK
      rw [if_pos (by rfl)]
      have d7 : ac.tmps.getD 7 undef = .agg #[.int .i64 m', .int .i64 c', .int .i64 t', .int .i64 ec', .bool sd', .bool ok', .bool sp', (.slice a' rs'.length cap')] := hD ⟨2, .data⟩ (by simp) rfl _ 7 rfl rfl
      clear hB hD hT
      go_simp
      refine (numbers_any _ _ _ _ _ _ _ _ _).mono ?_
      rintro e w' ⟨rfl, hb⟩
      exact hK _ _ (keepS hb hS) hb rfl
    · intro ac w1 hS hT hB hD K hK
      rw [if_pos (by rfl)]
      have d6 : ac.tmps.getD 6 undef = .agg #[.int .i64 m, .int .i64 c, .int .i64 t, .int .i64 ec] := hD ⟨1, .data⟩ (by simp) rfl _ 6 rfl rfl
      have d8 : ac.tmps.getD 8 undef = .agg #[.int .i64 m', .int .i64 c', .int .i64 t', .int .i64 ec'] := hD ⟨3, .data⟩ (by simp) rfl _ 8 rfl rfl
      clear hB hD hT
      have hq := eq57 m c t ec m' c' t' ec' w1
      rw [H1.out] at hq
      go_simp
      exact hK _ _ hS (Below.refl _ _) rfl
    · intro ac w1 hS hT hB hD K hK
      rw [if_pos (by rfl)]
      have d9 : ac.tmps.getD 9 undef = .bool true := hD ⟨4, .data⟩ (by simp) rfl _ 9 rfl rfl
      clear hB hD hT
      go_simp
      exact hK _ _ hS (Below.refl _ _) rfl
    · intro ac w1 hS hT hB hD K hK
      have g10 : ac.tmps.getD 10 undef = .bool true := hD ⟨5, .guard⟩ (by simp) rfl _ 10 rfl rfl
      rw [if_pos (want_t (j := 5) (d := 10) rfl rfl g10)]
      clear g10
      have d2 : ac.tmps.getD 2 undef = .pointer (some ⟨w.heap.size, 0, none⟩) := hB 2 (by kernel_rfl)
      clear hB hD hT
      have hc := hS.2.1.eight.1
      go_simp
      exact hK _ _ hS (Below.refl _ _) rfl
    · intro ac w1 hS hT hB hD K hK
      have g10 : ac.tmps.getD 10 undef = .bool true := hD ⟨5, .guard⟩ (by simp) rfl _ 10 rfl rfl
      rw [if_pos (want_t (j := 5) (d := 10) rfl rfl g10)]
      clear g10
      have d11 : ac.tmps.getD 11 undef = .agg #[.int .i64 m, .int .i64 c, .int .i64 t, .int .i64 ec, .bool sd, .bool ok, .bool sp, (.slice a rs.length cap)] := hD ⟨6, .data⟩ (by simp) rfl _ 11 rfl rfl
      clear hB hD hT
      go_simp
      refine (marks_any _ _ _ _ _ _ _ _ _).mono ?_
      rintro e w' ⟨rfl, hb⟩
      exact hK _ _ (keepS hb hS) hb rfl
    · intro ac w1 hS hT hB hD K hK
      have g10 : ac.tmps.getD 10 undef = .bool true := hD ⟨5, .guard⟩ (by simp) rfl _ 10 rfl rfl
      rw [if_pos (want_t (j := 5) (d := 10) rfl rfl g10)]
      clear g10
      have d3 : ac.tmps.getD 3 undef = .pointer (some ⟨w.heap.size + 1, 0, none⟩) := hB 3 (by kernel_rfl)
      clear hB hD hT
      have hc := hS.2.2.1.eight.1
      go_simp
      exact hK _ _ hS (Below.refl _ _) rfl
    · intro ac w1 hS hT hB hD K hK
      have g10 : ac.tmps.getD 10 undef = .bool true := hD ⟨5, .guard⟩ (by simp) rfl _ 10 rfl rfl
      rw [if_pos (want_t (j := 5) (d := 10) rfl rfl g10)]
      clear g10
      have d13 : ac.tmps.getD 13 undef = .agg #[.int .i64 m', .int .i64 c', .int .i64 t', .int .i64 ec', .bool sd', .bool ok', .bool sp', (.slice a' rs'.length cap')] := hD ⟨8, .data⟩ (by simp) rfl _ 13 rfl rfl
      clear hB hD hT
      go_simp
      refine (marks_any _ _ _ _ _ _ _ _ _).mono ?_
      rintro e w' ⟨rfl, hb⟩
      exact hK _ _ (keepS hb hS) hb rfl
    · intro ac w1 hS hT hB hD K hK
      have g10 : ac.tmps.getD 10 undef = .bool true := hD ⟨5, .guard⟩ (by simp) rfl _ 10 rfl rfl
      rw [if_pos (want_t (j := 5) (d := 10) rfl rfl g10)]
      clear g10
      have d12 : ac.tmps.getD 12 undef = .agg #[.bool sd, .bool ok, .bool sp] := hD ⟨7, .data⟩ (by simp) rfl _ 12 rfl rfl
      have d14 : ac.tmps.getD 14 undef = .agg #[.bool sd', .bool ok', .bool sp'] := hD ⟨9, .data⟩ (by simp) rfl _ 14 rfl rfl
      clear hB hD hT
      have hq := eq59 sd ok sp sd' ok' sp' w1
      rw [H2.out] at hq
      go_simp
      exact hK _ _ hS (Below.refl _ _) rfl
    · intro ac w1 hS hT hB hD K hK
      rw [if_pos (by rfl)]
      have d10 : ac.tmps.getD 10 undef = .bool true := hD ⟨5, .data⟩ (by simp) rfl _ 10 rfl rfl
      have d15 : ac.tmps.getD 15 undef = .bool false := hD ⟨10, .data⟩ (by simp) rfl _ 15 rfl rfl
      clear hB hD hT
      go_simp
      exact hK _ _ hS (Below.refl _ _) rfl
    · intro ac w1 hS hT hB hD K hK
      rw [if_pos (by rfl)]
      have d16 : ac.tmps.getD 16 undef = .bool false := hD ⟨11, .data⟩ (by simp) rfl _ 16 rfl rfl
      clear hB hD hT
      go_simp
      exact hK _ _ hS (Below.refl _ _) rfl
    · intro ac w1 hS hT hB hD K hK
      have g17 : ac.tmps.getD 17 undef = .bool false := hD ⟨12, .guard⟩ (by simp) rfl _ 17 rfl rfl
      rw [if_neg (by rw [want_f (j := 12) (d := 17) rfl rfl g17 (by decide)]; simp)]
      exact hK _ _ hS (Below.refl _ _) rfl
    · intro ac w1 hS hT hB hD K hK
      have g17 : ac.tmps.getD 17 undef = .bool false := hD ⟨12, .guard⟩ (by simp) rfl _ 17 rfl rfl
      rw [if_neg (by rw [want_f (j := 12) (d := 17) rfl rfl g17 (by decide)]; simp)]
      exact hK _ _ hS (Below.refl _ _) rfl
    · intro ac w1 hS hT hB hD K hK
      have g17 : ac.tmps.getD 17 undef = .bool false := hD ⟨12, .guard⟩ (by simp) rfl _ 17 rfl rfl
      rw [if_neg (by rw [want_f (j := 12) (d := 17) rfl rfl g17 (by decide)]; simp)]
      exact hK _ _ hS (Below.refl _ _) rfl
    · intro ac w1 hS hT hB hD K hK
      have g17 : ac.tmps.getD 17 undef = .bool false := hD ⟨12, .guard⟩ (by simp) rfl _ 17 rfl rfl
      rw [if_neg (by rw [want_f (j := 12) (d := 17) rfl rfl g17 (by decide)]; simp)]
      exact hK _ _ hS (Below.refl _ _) rfl
    · intro ac w1 hS hT hB hD K hK
      have g17 : ac.tmps.getD 17 undef = .bool false := hD ⟨12, .guard⟩ (by simp) rfl _ 17 rfl rfl
      rw [if_neg (by rw [want_f (j := 12) (d := 17) rfl rfl g17 (by decide)]; simp)]
      exact hK _ _ hS (Below.refl _ _) rfl
    · intro ac w1 hS hT hB hD K hK
      rw [if_pos (by rfl)]
      have d17 : ac.tmps.getD 17 undef = .bool false := hD ⟨12, .data⟩ (by simp) rfl _ 17 rfl rfl
      have d22 : ac.tmps.getD 22 undef = undef := hD ⟨17, .data⟩ (by simp) rfl _ 22 rfl rfl
      clear hB hD hT
      go_simp
      exact hK _ _ hS (Below.refl _ _) rfl
    · intro ac w1 hS hT hB hD K hK
      rw [if_pos (by rfl)]
      have d23 : ac.tmps.getD 23 undef = .bool false := hD ⟨18, .data⟩ (by simp) rfl _ 23 rfl rfl
      clear hB hD hT
      go_simp
      exact hK _ _ hS (Below.refl _ _) rfl
  · intro a1 w1 hS hT hdf hB hF
    clear HS0
    obtain ⟨⟨l⟩, df⟩ := a1
    match l, hT with
    | x0 :: x1 :: x2 :: x3 :: x4 :: x5 :: x6 :: x7 :: x8 :: x9 :: x10 :: x11 :: x12 :: x13 :: x14 :: x15 :: x16 :: x17 :: x18 :: x19 :: x20 :: x21 :: x22 :: x23 :: [], _ =>
      have s4 : x4 = .bool false := hF 19 _ 4 rfl rfl
      have sd : df = [] := hdf
      subst s4 sd
      clear hB hF
      go_wp2
      go_ret
      exact ⟨rfl, hS.1⟩
set_option maxRecDepth 100000 in
set_option maxHeartbeats 4000000 in
theorem same_nn (m c t ec : Int) (sd ok sp : Bool) (a : Option Addr) (cap : Nat) (rs : List (Int × Int)) (m' c' t' ec' : Int) (sd' ok' sp' : Bool) (a' : Option Addr) (cap' : Nat) (rs' : List (Int × Int)) (w : World) (hv : Rgs w (.slice a rs.length cap) rs) (hv' : Rgs w (.slice a' rs'.length cap') rs') (hn : rs.length ≤ 17592186044416) (hn' : rs'.length ≤ 17592186044416) (h1 : sameN m c t ec m' c' t' ec' = false) :
    Calls Tryz.prog 24 #[.agg #[.int .i64 m, .int .i64 c, .int .i64 t, .int .i64 ec, .bool sd, .bool ok, .bool sp, (.slice a rs.length cap)], .agg #[.int .i64 m', .int .i64 c', .int .i64 t', .int .i64 ec', .bool sd', .bool ok', .bool sp', (.slice a' rs'.length cap')]] w fun e w' => e = .returned (.bool false) ∧ Below w.heap.size w w' := by
  have hb1 := bel1 w (.cells #[.int .i64 m, .int .i64 c, .int .i64 t, .int .i64 ec, .bool sd, .bool ok, .bool sp, (.slice a rs.length cap)] 33)
  have hb2 := bel1 (w.alloc (.cells #[.int .i64 m, .int .i64 c, .int .i64 t, .int .i64 ec, .bool sd, .bool ok, .bool sp, (.slice a rs.length cap)] 33)) (.cells #[.int .i64 m', .int .i64 c', .int .i64 t', .int .i64 ec', .bool sd', .bool ok', .bool sp', (.slice a' rs'.length cap')] 33)
  have hd : Below ((w.alloc (.cells #[.int .i64 m, .int .i64 c, .int .i64 t, .int .i64 ec, .bool sd, .bool ok, .bool sp, (.slice a rs.length cap)] 33)).alloc (.cells #[.int .i64 m', .int .i64 c', .int .i64 t', .int .i64 ec', .bool sd', .bool ok', .bool sp', (.slice a' rs'.length cap')] 33)).heap.size ((w.alloc (.cells #[.int .i64 m, .int .i64 c, .int .i64 t, .int .i64 ec, .bool sd, .bool ok, .bool sp, (.slice a rs.length cap)] 33)).alloc (.cells #[.int .i64 m', .int .i64 c', .int .i64 t', .int .i64 ec', .bool sd', .bool ok', .bool sp', (.slice a' rs'.length cap')] 33)) ((w.alloc (.cells #[.int .i64 m, .int .i64 c, .int .i64 t, .int .i64 ec, .bool sd, .bool ok, .bool sp, (.slice a rs.length cap)] 33)).alloc (.cells #[.int .i64 m', .int .i64 c', .int .i64 t', .int .i64 ec', .bool sd', .bool ok', .bool sp', (.slice a' rs'.length cap')] 33)).drew := (Below.refl _ _).drew
  have HS0 : Hid (Below w.heap.size w ((w.alloc (.cells #[.int .i64 m, .int .i64 c, .int .i64 t, .int .i64 ec, .bool sd, .bool ok, .bool sp, (.slice a rs.length cap)] 33)).alloc (.cells #[.int .i64 m', .int .i64 c', .int .i64 t', .int .i64 ec', .bool sd', .bool ok', .bool sp', (.slice a' rs'.length cap')] 33)).drew ∧ At ((w.alloc (.cells #[.int .i64 m, .int .i64 c, .int .i64 t, .int .i64 ec, .bool sd, .bool ok, .bool sp, (.slice a rs.length cap)] 33)).alloc (.cells #[.int .i64 m', .int .i64 c', .int .i64 t', .int .i64 ec', .bool sd', .bool ok', .bool sp', (.slice a' rs'.length cap')] 33)).drew w.heap.size #[.int .i64 m, .int .i64 c, .int .i64 t, .int .i64 ec, .bool sd, .bool ok, .bool sp, (.slice a rs.length cap)] ∧ At ((w.alloc (.cells #[.int .i64 m, .int .i64 c, .int .i64 t, .int .i64 ec, .bool sd, .bool ok, .bool sp, (.slice a rs.length cap)] 33)).alloc (.cells #[.int .i64 m', .int .i64 c', .int .i64 t', .int .i64 ec', .bool sd', .bool ok', .bool sp', (.slice a' rs'.length cap')] 33)).drew (w.heap.size + 1) #[.int .i64 m', .int .i64 c', .int .i64 t', .int .i64 ec', .bool sd', .bool ok', .bool sp', (.slice a' rs'.length cap')] ∧ Rgs ((w.alloc (.cells #[.int .i64 m, .int .i64 c, .int .i64 t, .int .i64 ec, .bool sd, .bool ok, .bool sp, (.slice a rs.length cap)] 33)).alloc (.cells #[.int .i64 m', .int .i64 c', .int .i64 t', .int .i64 ec', .bool sd', .bool ok', .bool sp', (.slice a' rs'.length cap')] 33)).drew (.slice a rs.length cap) rs ∧ Rgs ((w.alloc (.cells #[.int .i64 m, .int .i64 c, .int .i64 t, .int .i64 ec, .bool sd, .bool ok, .bool sp, (.slice a rs.length cap)] 33)).alloc (.cells #[.int .i64 m', .int .i64 c', .int .i64 t', .int .i64 ec', .bool sd', .bool ok', .bool sp', (.slice a' rs'.length cap')] 33)).drew (.slice a' rs'.length cap') rs') :=
    ⟨bt (bt hb1 hb2) hd, ((At.box w _ 33).later hb2).later hd, (At.box2 w _ _ 33).later hd, ((hv.later hb1).later hb2).later hd, ((hv'.later hb1).later hb2).later hd⟩
  have H1 : Hid (decide (m = m' ∧ c = c' ∧ t = t' ∧ ec = ec') = false) := h1
  have HN : Hid (rs.length ≤ 17592186044416) := hn
  have HN' : Hid (rs'.length ≤ 17592186044416) := hn'
  clear hb1 hb2 hd hv hv' hn hn' h1
  go_enter Tryz.func24, Tryz.ntmps24
  go_wp2
  refine wp_region_any (by kernel_rfl) ?_
  refine region_facts (fun W => Below w.heap.size w W ∧ At W w.heap.size #[.int .i64 m, .int .i64 c, .int .i64 t, .int .i64 ec, .bool sd, .bool ok, .bool sp, (.slice a rs.length cap)] ∧ At W (w.heap.size + 1) #[.int .i64 m', .int .i64 c', .int .i64 t', .int .i64 ec', .bool sd', .bool ok', .bool sp', (.slice a' rs'.length cap')] ∧ Rgs W (.slice a rs.length cap) rs ∧ Rgs W (.slice a' rs'.length cap') rs') (GV (fun i => match i with | 0 => .agg #[.int .i64 m, .int .i64 c, .int .i64 t, .int .i64 ec, .bool sd, .bool ok, .bool sp, (.slice a rs.length cap)] | 1 => .agg #[.int .i64 m, .int .i64 c, .int .i64 t, .int .i64 ec] | 2 => .agg #[.int .i64 m', .int .i64 c', .int .i64 t', .int .i64 ec', .bool sd', .bool ok', .bool sp', (.slice a' rs'.length cap')] | 3 => .agg #[.int .i64 m', .int .i64 c', .int .i64 t', .int .i64 ec'] | 4 => .bool false | 5 => .bool false | 11 => .bool false | 12 => .bool false | 18 => .bool false | 19 => .bool false | _ => undef) (fun _ => none)) (n := 24) (by kernel_rfl) rfl (by kernel_rfl) (GV_later _ _) ?_ ?_ HS0.out (Nat.le_refl _)
  · clear HS0
    refine ⟨?_, ?_, ?_, ?_, ?_, ?_, ?_, ?_, ?_, ?_, ?_, ?_, ?_, ?_, ?_, ?_, ?_, ?_, ?_, ?_, trivial⟩
    · intro ac w1 hS hT hB hD K hK
      rw [if_pos (by rfl)]
      have d2 : ac.tmps.getD 2 undef = .pointer (some ⟨w.heap.size, 0, none⟩) := hB 2 (by kernel_rfl)
      clear hB hD hT
      have hc := hS.2.1.eight.1
      go_simp
      exact hK _ _ hS (Below.refl _ _) rfl
    · intro ac w1 hS hT hB hD K hK
      rw [if_pos (by rfl)]
      have d5 : ac.tmps.getD 5 undef = .agg #[.int .i64 m, .int .i64 c, .int .i64 t, .int .i64 ec, .bool sd, .bool ok, .bool sp, (.slice a rs.length cap)] := hD ⟨0, .data⟩ (by simp) rfl _ 5 rfl rfl
      clear hB hD hT
      go_simp
      refine (numbers_any _ _ _ _ _ _ _ _ _).mono ?_
      rintro e w' ⟨rfl, hb⟩
      exact hK _ _ (keepS hb hS) hb rfl
    · intro ac w1 hS hT hB hD K hK
      rw [if_pos (by rfl)]
      have d3 : ac.tmps.getD 3 undef = .pointer (some ⟨w.heap.size + 1, 0, none⟩) := hB 3 (by kernel_rfl)
      clear hB hD hT
      have hc := hS.2.2.1.eight.1
      go_simp
      exact hK _ _ hS (Below.refl _ _) rfl
    · intro ac w1 hS hT hB hD K hK
      rw [if_pos (by rfl)]
      have d7 : ac.tmps.getD 7 undef = .agg #[.int .i64 m', .int .i64 c', .int .i64 t', .int .i64 ec', .bool sd', .bool ok', .bool sp', (.slice a' rs'.length cap')] := hD ⟨2, .data⟩ (by simp) rfl _ 7 rfl rfl
      clear hB hD hT
      go_simp
      refine (numbers_any _ _ _ _ _ _ _ _ _).mono ?_
      rintro e w' ⟨rfl, hb⟩
      exact hK _ _ (keepS hb hS) hb rfl
    · intro ac w1 hS hT hB hD K hK
      rw [if_pos (by rfl)]
      have d6 : ac.tmps.getD 6 undef = .agg #[.int .i64 m, .int .i64 c, .int .i64 t, .int .i64 ec] := hD ⟨1, .data⟩ (by simp) rfl _ 6 rfl rfl
      have d8 : ac.tmps.getD 8 undef = .agg #[.int .i64 m', .int .i64 c', .int .i64 t', .int .i64 ec'] := hD ⟨3, .data⟩ (by simp) rfl _ 8 rfl rfl
      clear hB hD hT
      have hq := eq57 m c t ec m' c' t' ec' w1
      rw [H1.out] at hq
      go_simp
      exact hK _ _ hS (Below.refl _ _) rfl
    · intro ac w1 hS hT hB hD K hK
      rw [if_pos (by rfl)]
      have d9 : ac.tmps.getD 9 undef = .bool false := hD ⟨4, .data⟩ (by simp) rfl _ 9 rfl rfl
      clear hB hD hT
      go_simp
      exact hK _ _ hS (Below.refl _ _) rfl
    · intro ac w1 hS hT hB hD K hK
      have g10 : ac.tmps.getD 10 undef = .bool false := hD ⟨5, .guard⟩ (by simp) rfl _ 10 rfl rfl
      rw [if_neg (by rw [want_f (j := 5) (d := 10) rfl rfl g10 (by decide)]; simp)]
      exact hK _ _ hS (Below.refl _ _) rfl
    · intro ac w1 hS hT hB hD K hK
      have g10 : ac.tmps.getD 10 undef = .bool false := hD ⟨5, .guard⟩ (by simp) rfl _ 10 rfl rfl
      rw [if_neg (by rw [want_f (j := 5) (d := 10) rfl rfl g10 (by decide)]; simp)]
      exact hK _ _ hS (Below.refl _ _) rfl
    · intro ac w1 hS hT hB hD K hK
      have g10 : ac.tmps.getD 10 undef = .bool false := hD ⟨5, .guard⟩ (by simp) rfl _ 10 rfl rfl
      rw [if_neg (by rw [want_f (j := 5) (d := 10) rfl rfl g10 (by decide)]; simp)]
      exact hK _ _ hS (Below.refl _ _) rfl
    · intro ac w1 hS hT hB hD K hK
      have g10 : ac.tmps.getD 10 undef = .bool false := hD ⟨5, .guard⟩ (by simp) rfl _ 10 rfl rfl
      rw [if_neg (by rw [want_f (j := 5) (d := 10) rfl rfl g10 (by decide)]; simp)]
      exact hK _ _ hS (Below.refl _ _) rfl
    · intro ac w1 hS hT hB hD K hK
      have g10 : ac.tmps.getD 10 undef = .bool false := hD ⟨5, .guard⟩ (by simp) rfl _ 10 rfl rfl
      rw [if_neg (by rw [want_f (j := 5) (d := 10) rfl rfl g10 (by decide)]; simp)]
      exact hK _ _ hS (Below.refl _ _) rfl
    · intro ac w1 hS hT hB hD K hK
      rw [if_pos (by rfl)]
      have d10 : ac.tmps.getD 10 undef = .bool false := hD ⟨5, .data⟩ (by simp) rfl _ 10 rfl rfl
      have d15 : ac.tmps.getD 15 undef = undef := hD ⟨10, .data⟩ (by simp) rfl _ 15 rfl rfl
      clear hB hD hT
      go_simp
      exact hK _ _ hS (Below.refl _ _) rfl
    · intro ac w1 hS hT hB hD K hK
      rw [if_pos (by rfl)]
      have d16 : ac.tmps.getD 16 undef = .bool false := hD ⟨11, .data⟩ (by simp) rfl _ 16 rfl rfl
      clear hB hD hT
      go_simp
      exact hK _ _ hS (Below.refl _ _) rfl
    · intro ac w1 hS hT hB hD K hK
      have g17 : ac.tmps.getD 17 undef = .bool false := hD ⟨12, .guard⟩ (by simp) rfl _ 17 rfl rfl
      rw [if_neg (by rw [want_f (j := 12) (d := 17) rfl rfl g17 (by decide)]; simp)]
      exact hK _ _ hS (Below.refl _ _) rfl
    · intro ac w1 hS hT hB hD K hK
      have g17 : ac.tmps.getD 17 undef = .bool false := hD ⟨12, .guard⟩ (by simp) rfl _ 17 rfl rfl
      rw [if_neg (by rw [want_f (j := 12) (d := 17) rfl rfl g17 (by decide)]; simp)]
      exact hK _ _ hS (Below.refl _ _) rfl
    · intro ac w1 hS hT hB hD K hK
      have g17 : ac.tmps.getD 17 undef = .bool false := hD ⟨12, .guard⟩ (by simp) rfl _ 17 rfl rfl
      rw [if_neg (by rw [want_f (j := 12) (d := 17) rfl rfl g17 (by decide)]; simp)]
      exact hK _ _ hS (Below.refl _ _) rfl
    · intro ac w1 hS hT hB hD K hK
      have g17 : ac.tmps.getD 17 undef = .bool false := hD ⟨12, .guard⟩ (by simp) rfl _ 17 rfl rfl
      rw [if_neg (by rw [want_f (j := 12) (d := 17) rfl rfl g17 (by decide)]; simp)]
      exact hK _ _ hS (Below.refl _ _) rfl
    · intro ac w1 hS hT hB hD K hK
      have g17 : ac.tmps.getD 17 undef = .bool false := hD ⟨12, .guard⟩ (by simp) rfl _ 17 rfl rfl
      rw [if_neg (by rw [want_f (j := 12) (d := 17) rfl rfl g17 (by decide)]; simp)]
      exact hK _ _ hS (Below.refl _ _) rfl
    · intro ac w1 hS hT hB hD K hK
      rw [if_pos (by rfl)]
      have d17 : ac.tmps.getD 17 undef = .bool false := hD ⟨12, .data⟩ (by simp) rfl _ 17 rfl rfl
      have d22 : ac.tmps.getD 22 undef = undef := hD ⟨17, .data⟩ (by simp) rfl _ 22 rfl rfl
      clear hB hD hT
      go_simp
      exact hK _ _ hS (Below.refl _ _) rfl
    · intro ac w1 hS hT hB hD K hK
      rw [if_pos (by rfl)]
      have d23 : ac.tmps.getD 23 undef = .bool false := hD ⟨18, .data⟩ (by simp) rfl _ 23 rfl rfl
      clear hB hD hT
      go_simp
      exact hK _ _ hS (Below.refl _ _) rfl
  · intro a1 w1 hS hT hdf hB hF
    clear HS0
    obtain ⟨⟨l⟩, df⟩ := a1
    match l, hT with
    | x0 :: x1 :: x2 :: x3 :: x4 :: x5 :: x6 :: x7 :: x8 :: x9 :: x10 :: x11 :: x12 :: x13 :: x14 :: x15 :: x16 :: x17 :: x18 :: x19 :: x20 :: x21 :: x22 :: x23 :: [], _ =>
      have s4 : x4 = .bool false := hF 19 _ 4 rfl rfl
      have sd : df = [] := hdf
      subst s4 sd
      clear hB hF
      go_wp2
      go_ret
      exact ⟨rfl, hS.1⟩
theorem same_any (m c t ec : Int) (sd ok sp : Bool) (v : Value) (rs : List (Int × Int)) (m' c' t' ec' : Int) (sd' ok' sp' : Bool) (v' : Value) (rs' : List (Int × Int)) (w : World) (hv : Rgs w v rs) (hv' : Rgs w v' rs') (hn : rs.length ≤ 17592186044416) (hn' : rs'.length ≤ 17592186044416) :
    Calls Tryz.prog 24 #[.agg #[.int .i64 m, .int .i64 c, .int .i64 t, .int .i64 ec, .bool sd, .bool ok, .bool sp, v], .agg #[.int .i64 m', .int .i64 c', .int .i64 t', .int .i64 ec', .bool sd', .bool ok', .bool sp', v']] w fun e w' => e = .returned (.bool (sameO m c t ec sd ok sp rs m' c' t' ec' sd' ok' sp' rs')) ∧ Below w.heap.size w w' := by
  obtain ⟨a, cap, e1, -⟩ := id hv
  obtain ⟨a', cap', e2, -⟩ := id hv'
  subst e1 e2
  unfold sameO
  rcases Bool.eq_false_or_eq_true (sameN m c t ec m' c' t' ec') with h1 | h1
  · rcases Bool.eq_false_or_eq_true (sameM sd ok sp sd' ok' sp') with h2 | h2
    · rw [h1, h2, Bool.true_and, Bool.true_and]
      exact same_yy _ _ _ _ _ _ _ _ _ _ _ _ _ _ _ _ _ _ _ _ w hv hv' hn hn' h1 h2
    · rw [h1, h2]
      exact same_yn _ _ _ _ _ _ _ _ _ _ _ _ _ _ _ _ _ _ _ _ w hv hv' hn hn' h1 h2
  · rw [h1]
    exact same_nn _ _ _ _ _ _ _ _ _ _ _ _ _ _ _ _ _ _ _ _ w hv hv' hn hn' h1
end Go.Proofs.YtkpdmgoldngdaabGreatDoor

namespace Go.Proofs.YtkpdmgoldngdaabGreatDoor
open Go.RowKit
set_option maxRecDepth 100000
set_option linter.unusedVariables false
theorem orun_sl (s : ByteArray) (a b : Int) (v : ByteArray) (hx : s.extract a.toNat b.toNat = v) (h : b ≤ s.size) (h0 : 0 ≤ a) (hab : a ≤ b) : ∀ W, (Instr.slice 9 (.string s) (some (.int .i64 a)) (some (.int .i64 b)) none).run Tryz.prog W = .ok (.string v) W := fun W => by
  rw [run_slice_string_if W 9 s .i64 .i64 a b Tryz.underlying9, if_pos ⟨by omega, by omega⟩, if_pos ⟨by omega, by omega⟩, ← hx]
end Go.Proofs.YtkpdmgoldngdaabGreatDoor
