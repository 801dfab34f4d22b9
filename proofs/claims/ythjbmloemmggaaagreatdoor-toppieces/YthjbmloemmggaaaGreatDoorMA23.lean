/- the texts Xf, Xg, Xh, Xi, in part, merged by program -/
import Derived.Test.YthjbmloemmggaaaGreatDoorProg
import Derived.Test.YthjbmloemmggaaaGreatDoorRows
import Derived.WalkKit
import Derived.WalkSpells
import Derived.RegionTactic
import Derived.Below
import Derived.Laws.Tables
import Derived.Great.BuildSlice
import Derived.Laws.OwnMore
import Derived.Laws.AppendOwn
import Derived.Laws.AppendOwnNone
import Derived.Deep.LoopGhost
import Derived.Lib.Repeat
import Derived.Deep.RegionHeld3
import Derived.Deep.QuietTactic
import Derived.BigQuiet
import Derived.WalkSmall
import Derived.Laws.StructEq
import Derived.Recover
import Derived.Stop.Asserts
import Derived.RangeFuncBox
import Derived.OwnWalkIn
import Derived.TacticsInMore
import Derived.LoopNIn
import Derived.LoopIn
import Derived.Maps.AppendAt
import Derived.Shelf.RegionOpen
import Derived.Deep.Light
import Derived.OrdersIn
import Derived.RangeFuncCalls
import Derived.RangeFuncNested
import Derived.RangeFuncLeaves
import Derived.Shelf.Abstract
import Derived.LaidEql
import Derived.RowKitTokens
import Derived.Test.YthjbmloemmggaaaGreatDoorMA01
import Derived.Test.YthjbmloemmggaaaGreatDoorMA02
import Derived.Test.YthjbmloemmggaaaGreatDoorMA16
import Derived.Test.YthjbmloemmggaaaGreatDoorMA22
namespace Go.Proofs.YthjbmloemmggaaaGreatDoor
open Go.RowKit
set_option maxRecDepth 100000
set_option linter.unusedVariables false
set_option linter.unusedSimpArgs false
theorem bk_any (P : Nat) (g mk m : Int) (lv mp : Value) (kx : TypeId) (x : Value) (w : World) (hA : At w P #[lv, .int .i64 g, mp, .int .i64 mk]) (hg : g ≤ 1000) :
    Calls Tryz.prog 133 #[.pointer (some ⟨P, 0, none⟩), .iface kx x, .int .i64 m] w fun e w' => e = .returned (.bool false) ∧ w' = w := by
  have c1 := (hA.2 1 _ rfl).1
  have hg1 : g ≤ 1048576 := by omega
  go_enter Tryz.func133, Tryz.ntmps133
  go_wp2
  go_ret
  exact ⟨rfl, rfl⟩
set_option maxHeartbeats 2000000 in
theorem enter_n (P : Nat) (kx : TypeId) (x : Value) (w : World) (HW : Hid (Calls Tryz.prog 132 #[.iface kx x] w fun e w' => e = .returned (.tuple #[.nilIface, .slice none 0 0]) ∧ w' = w)) :
    Calls Tryz.prog 125 #[.pointer (some ⟨P, 0, none⟩), .iface kx x] w fun e w' => e = .returned (.tuple #[]) ∧ w' = w := by
  go_enter Tryz.func125, Tryz.ntmps125
  go_wp2_with fail
  refine HW.out.mono ?_
  rintro e w1 ⟨rfl, rfl⟩
  go_wp2
  go_end0
  exact ⟨rfl, rfl⟩
set_option maxHeartbeats 2000000 in
theorem enter_s (N P : Nat) (g mk : Int) (mp : Value) (la : Option Addr) (lc : Nat) (k : TypeId) (y : Value) (kx : TypeId) (x : Value) (w : World) (hN : N ≤ P) (hA : At w P #[.slice la 0 lc, .int .i64 g, mp, .int .i64 mk]) (hown : w.ownsRow (P + 1) 58 1 (.slice la 0 lc) 0 []) (hg0 : 0 ≤ g) (hg1 : g < 1000)
    (HW : Hid (Calls Tryz.prog 132 #[.iface kx x] w fun e w' => e = .returned (.tuple #[.iface k y, .slice none 0 0]) ∧ w' = w)) :
    Calls Tryz.prog 125 #[.pointer (some ⟨P, 0, none⟩), .iface kx x] w fun e w' => e = .returned (.tuple #[]) ∧ (∃ gg cap : Nat, At w' P #[.slice (some ⟨gg, 0, none⟩) 1 cap, .int .i64 (g + 1), mp, .int .i64 mk] ∧ w'.ownsRow (P + 1) 58 1 (.slice (some ⟨gg, 0, none⟩) 1 cap) 1 [.iface k y]) ∧ Below N w w' := by
  have hP := hA.1
  have hbx := At.box w #[.iface k y] 58
  have HS : Hid (Calls Tryz.prog 124 #[.pointer (some ⟨P, 0, none⟩), .slice (some ⟨w.heap.size, 0, none⟩) 1 1] (w.alloc (.cells #[.iface k y] 58)) fun e w' => e = .returned (.tuple #[]) ∧ (∃ gg cap : Nat, At w' P #[.slice (some ⟨gg, 0, none⟩) 1 cap, .int .i64 (g + 1), mp, .int .i64 mk] ∧ w'.ownsRow (P + 1) 58 1 (.slice (some ⟨gg, 0, none⟩) 1 cap) 1 [.iface k y]) ∧ Below N (w.alloc (.cells #[.iface k y] 58)) w') :=
    add_s N P w.heap.size g mk mp la lc k y _ hN (hA.later (bel1 _ _)) (own_later hown (bel1 _ _)) (by omega) hbx hg0 hg1
  have HB : Hid (Calls Tryz.prog 133 #[.pointer (some ⟨P, 0, none⟩), .iface kx x, .int .i64 1] w fun e w' => e = .returned (.bool false) ∧ w' = w) := bk_any P g mk 1 _ mp kx x w hA (by omega)
  have hbl : Below N w (w.alloc (.cells #[.iface k y] 58)) := (bel1 w _).mono (by omega)
  have hbs := bs174 k y w
  clear hbx hA hown
  go_enter Tryz.func125, Tryz.ntmps125
  go_wp2_with fail
  refine HW.out.mono ?_
  rintro e w1 ⟨rfl, rfl⟩
  clear HW
  go_wp2_with fail
  refine HB.out.mono ?_
  rintro e w2 ⟨rfl, rfl⟩
  clear HB
  go_wp2_with fail
  refine HS.out.mono ?_
  rintro e w3 ⟨rfl, h1, h2⟩
  clear HS
  go_wp2
  go_end0
  exact ⟨rfl, h1, hbl.trans h2⟩
end Go.Proofs.YthjbmloemmggaaaGreatDoor

namespace Go.Proofs.YthjbmloemmggaaaGreatDoor
open Go.RowKit Go.Shelf
attribute [local go_sem] Oper.semAt_some
set_option maxRecDepth 100000
set_option linter.unusedVariables false
set_option linter.unusedSimpArgs false
def ChainOf (w : World) (xs : List Value) : Prop := xs.length ≤ 500 ∧ ∀ i x, xs[i]? = some x → (∃ k v, x = .iface k v) ∧ ∀ W, Below w.heap.size w W → Calls Tryz.prog 132 #[x] W fun e w' => e = .returned (.tuple #[xs[i + 1]?.getD .nilIface, .slice none 0 0]) ∧ w' = W
theorem own_pop {w : World} {base : Nat} {e : TypeId} {g cap : Nat} {x : Value} (h : w.ownsRow base e 1 (.slice (some ⟨g, 0, none⟩) 1 cap) 1 [x]) : w.ownsRow base e 1 (.slice (some ⟨g, 0, none⟩) 0 cap) 0 [] := by
  rcases h.2 with ⟨h, _⟩ | ⟨g', cap', cur, hv, hb, hg, h1, h2, h3, _⟩
  · cases h
  · cases hv
    exact ⟨rfl, .inr ⟨g, cap, cur, rfl, hb, hg, Nat.zero_le _, h2, h3, by simp⟩⟩
theorem own_first {w : World} {base : Nat} {e : TypeId} {g cap : Nat} {x : Value} (h : w.ownsRow base e 1 (.slice (some ⟨g, 0, none⟩) 1 cap) 1 [x]) : w.cell? ⟨g, 0, none⟩ = some x ∧ 1 ≤ cap ∧ base ≤ g := by
  rcases h.2 with ⟨h, _⟩ | ⟨g', cap', cur, hv, hb, hg, h1, h2, h3, h4⟩
  · cases h
  · cases hv
    refine ⟨?_, h1, hb⟩
    have : cur.toList[0]? = some x := by
      have : (cur.toList.take (1 * 1))[0]? = some x := by rw [h4]; rfl
      simpa using this
    simp only [World.cell?, hg]
    simpa using this
theorem bs174n (w : World) : (Instr.buildSlice 187 1 #[(0, .nilIface)]).run Tryz.prog w = .ok (.slice (some ⟨w.heap.size, 0, none⟩) 1 1) (w.alloc (.cells #[.nilIface] 58)) := by
  obtain ⟨i0, hi, hz0, hz1, hz2⟩ := info_parts Tryz.info58
  refine run_buildSlice w 187 58 1 _ _ i0 _ Tryz.underlying187 hi hz0 (by rw [hz1]; decide) (by rw [hz1]; decide) ?_
  rw [hz1]; kernel_rfl
def leftOf (P n : Nat) (wr : World) : Nat := (match wr.cell? ⟨P, 1, none⟩ with | some (.int _ g) => 2 * (n - g.toNat) | _ => 0) + (match wr.cell? ⟨P, 0, none⟩ with | some (.slice _ m _) => m | _ => 0)
theorem leftOf_at {P n : Nat} {wr : World} {la : Option Addr} {m lc : Nat} {g : Int} {mp mk : Value} (h : At wr P #[.slice la m lc, .int .i64 g, mp, mk]) : leftOf P n wr = 2 * (n - g.toNat) + m := by
  unfold leftOf
  rw [(h.2 0 _ rfl).1, (h.2 1 _ rfl).1]
  rfl
set_option maxHeartbeats 4000000 in
theorem inside_it (n : Nat) (Be : Nat) (xs : List Value) (w : World) (hBe : At w Be #[xs[0]?.getD .nilIface]) (hch : ChainOf w xs) :
    ItRuns Fence.wide n Tryz.prog 123 #[.pointer (some ⟨Be, 0, none⟩)] (fun x : Value => #[x]) (fun A B => Below A.heap.size A B) (fun s A B => Below s A B) xs w := by
  intro l J Jx W hW hJ hY h0
  have hE := hBe.later hW
  have ce := (hE.2 0 _ rfl).1
  refine callsIn_of_wp Tryz.func123 rfl trivial ?_ rfl
  simp only [Tryz.ntmps123, List.size_toArray, List.length_cons, List.length_nil, Nat.reduceAdd, Nat.reduceSub, Array.replicate_succ, Array.replicate_zero, List.push_toArray, List.append_toArray, List.nil_append, List.cons_append]
  have hmm := @run_makeMap Tryz.prog
  rcases h00 : xs[0]? with _ | x0
  · rw [h00] at hE
    have hl0 : xs.length = 0 := by
      rcases Nat.eq_zero_or_pos xs.length with h | h
      · exact h
      · rw [List.getElem?_eq_getElem h] at h00; cases h00
    have k1 := bel1 W (.map #[] 0)
    have k2 := bel1 (W.alloc (.map #[] 0)) (.cells #[.slice none 0 0, .int .i64 0, .map (some W.heap.size), .int .i64 0] 189)
    have hA := At.box2 W (.map #[] 0) #[.slice none 0 0, .int .i64 0, .map (some W.heap.size), .int .i64 0] 189
    have hb := bt k1 k2
    have ceA := ((hE.later hb).2 0 _ rfl).1
    replace ceA : ((W.alloc (.map #[] 0)).alloc (.cells #[.slice none 0 0, .int .i64 0, .map (some W.heap.size), .int .i64 0] 189)).cell? ⟨Be, 0, none⟩ = some (.nilIface) := ceA
    have hsz : ((W.alloc (.map #[] 0)).alloc (.cells #[.slice none 0 0, .int .i64 0, .map (some W.heap.size), .int .i64 0] 189)).heap.size = W.heap.size + 2 := by simp
    have hbs := bs174n ((W.alloc (.map #[] 0)).alloc (.cells #[.slice none 0 0, .int .i64 0, .map (some W.heap.size), .int .i64 0] 189))
    rw [hsz] at hbs
    have hbx := At.box ((W.alloc (.map #[] 0)).alloc (.cells #[.slice none 0 0, .int .i64 0, .map (some W.heap.size), .int .i64 0] 189)) #[.nilIface] 58
    rw [hsz] at hbx
    have k3 := bel1 ((W.alloc (.map #[] 0)).alloc (.cells #[.slice none 0 0, .int .i64 0, .map (some W.heap.size), .int .i64 0] 189)) (.cells #[.nilIface] 58)
    have HS : Hid (Calls Tryz.prog 124 #[.pointer (some ⟨W.heap.size + 1, 0, none⟩), .slice (some ⟨W.heap.size + 2, 0, none⟩) 1 1] (((W.alloc (.map #[] 0)).alloc (.cells #[.slice none 0 0, .int .i64 0, .map (some W.heap.size), .int .i64 0] 189)).alloc (.cells #[.nilIface] 58)) fun e w' => e = .returned (.tuple #[]) ∧ (At w' (W.heap.size + 1) #[.slice none 0 0, .int .i64 (0 + 1), .map (some W.heap.size), .int .i64 0] ∧ w'.ownsRow (W.heap.size + 1 + 1) 58 1 (.slice none 0 0) 0 []) ∧ Below W.heap.size (((W.alloc (.map #[] 0)).alloc (.cells #[.slice none 0 0, .int .i64 0, .map (some W.heap.size), .int .i64 0] 189)).alloc (.cells #[.nilIface] 58)) w') := add_n W.heap.size (W.heap.size + 1) (W.heap.size + 2) 0 0 _ none 0 _ (by omega) (hA.later k3) ⟨rfl, .inl ⟨rfl, rfl⟩⟩ (by omega) hbx (by omega) (by omega)
    have hb3 : Below W.heap.size W (((W.alloc (.map #[] 0)).alloc (.cells #[.slice none 0 0, .int .i64 0, .map (some W.heap.size), .int .i64 0] 189)).alloc (.cells #[.nilIface] 58)) := hb.trans (k3.mono (by rw [hsz]; omega))
    clear k1 k2 k3 hbx hb hA hsz
    gi_wp2_with fail
    refine ⟨trivial, fun h => (by cases h), (callsIn_wide.2 HS.out).mono ?_⟩
    rintro e w5 ⟨rfl, ⟨hA5, hr5⟩, hb5⟩
    have c0 := (hA5.2 0 _ rfl).1
    have c1 := (hA5.2 1 _ rfl).1
    have hJ5 := hJ 0 W w5 h0 (hb3.trans hb5)
    gi_wp2
    refine wpIn_loop_rounds 1 ?_
    rw [roundsIn_succ]
    gi_wp2
    go_end0
    exact ⟨⟨_, rfl⟩, .inl (by rw [hl0]; exact hJ5)⟩
  · rw [h00] at hE
    obtain ⟨⟨kx, vx, rfl⟩, -⟩ := hch.2 0 x0 h00
    have k1 := bel1 W (.map #[] 0)
    have k2 := bel1 (W.alloc (.map #[] 0)) (.cells #[.slice none 0 0, .int .i64 0, .map (some W.heap.size), .int .i64 0] 189)
    have hA := At.box2 W (.map #[] 0) #[.slice none 0 0, .int .i64 0, .map (some W.heap.size), .int .i64 0] 189
    have hb := bt k1 k2
    have ceA := ((hE.later hb).2 0 _ rfl).1
    replace ceA : ((W.alloc (.map #[] 0)).alloc (.cells #[.slice none 0 0, .int .i64 0, .map (some W.heap.size), .int .i64 0] 189)).cell? ⟨Be, 0, none⟩ = some (.iface kx vx) := ceA
    have hsz : ((W.alloc (.map #[] 0)).alloc (.cells #[.slice none 0 0, .int .i64 0, .map (some W.heap.size), .int .i64 0] 189)).heap.size = W.heap.size + 2 := by simp
    have hbs := bs174 kx vx ((W.alloc (.map #[] 0)).alloc (.cells #[.slice none 0 0, .int .i64 0, .map (some W.heap.size), .int .i64 0] 189))
    rw [hsz] at hbs
    have hbx := At.box ((W.alloc (.map #[] 0)).alloc (.cells #[.slice none 0 0, .int .i64 0, .map (some W.heap.size), .int .i64 0] 189)) #[.iface kx vx] 58
    rw [hsz] at hbx
    have k3 := bel1 ((W.alloc (.map #[] 0)).alloc (.cells #[.slice none 0 0, .int .i64 0, .map (some W.heap.size), .int .i64 0] 189)) (.cells #[.iface kx vx] 58)
    have HS : Hid (Calls Tryz.prog 124 #[.pointer (some ⟨W.heap.size + 1, 0, none⟩), .slice (some ⟨W.heap.size + 2, 0, none⟩) 1 1] (((W.alloc (.map #[] 0)).alloc (.cells #[.slice none 0 0, .int .i64 0, .map (some W.heap.size), .int .i64 0] 189)).alloc (.cells #[.iface kx vx] 58)) fun e w' => e = .returned (.tuple #[]) ∧ (∃ gg cap : Nat, At w' (W.heap.size + 1) #[.slice (some ⟨gg, 0, none⟩) 1 cap, .int .i64 (0 + 1), .map (some W.heap.size), .int .i64 0] ∧ w'.ownsRow (W.heap.size + 1 + 1) 58 1 (.slice (some ⟨gg, 0, none⟩) 1 cap) 1 [.iface kx vx]) ∧ Below W.heap.size (((W.alloc (.map #[] 0)).alloc (.cells #[.slice none 0 0, .int .i64 0, .map (some W.heap.size), .int .i64 0] 189)).alloc (.cells #[.iface kx vx] 58)) w') := add_s W.heap.size (W.heap.size + 1) (W.heap.size + 2) 0 0 _ none 0 kx vx _ (by omega) (hA.later k3) ⟨rfl, .inl ⟨rfl, rfl⟩⟩ (by omega) hbx (by omega) (by omega)
    have hb3 : Below W.heap.size W (((W.alloc (.map #[] 0)).alloc (.cells #[.slice none 0 0, .int .i64 0, .map (some W.heap.size), .int .i64 0] 189)).alloc (.cells #[.iface kx vx] 58)) := hb.trans (k3.mono (by rw [hsz]; omega))
    clear k1 k2 k3 hbx hb hA hsz
    gi_wp2_with fail
    refine ⟨trivial, fun h => (by cases h), (callsIn_wide.2 HS.out).mono ?_⟩
    rintro e w5 ⟨rfl, ⟨gg, cap, hA5, hr5⟩, hb5⟩
    have hJ5 := hJ 0 W w5 h0 (hb3.trans hb5)
    have hbW := hb3.trans hb5
    clear hBe hE ceA hbs HS hb3 hb5 ce h0
    gi_wp2
    gi_loopw [4] (fun q wr => Below W.heap.size W wr ∧ ∃ i : Nat, J i wr ∧ ((∃ (k : TypeId) (v : Value) (gg cap : Nat), xs[i]? = some (.iface k v) ∧ At wr (W.heap.size + 1) #[.slice (some ⟨gg, 0, none⟩) 1 cap, .int .i64 ((i : Int) + 1), .map (some W.heap.size), .int .i64 0] ∧ wr.ownsRow (W.heap.size + 1 + 1) 58 1 (.slice (some ⟨gg, 0, none⟩) 1 cap) 1 [.iface k v]) ∨ (i = xs.length ∧ ∃ (la : Option Addr) (lc : Nat), At wr (W.heap.size + 1) #[.slice la 0 lc, .int .i64 (i : Int), .map (some W.heap.size), .int .i64 0])))
      (fun _ wr => leftOf (W.heap.size + 1) xs.length wr)
    case atStart => exact ⟨hbW, 0, hJ5, .inl ⟨kx, vx, gg, cap, h00, hA5, hr5⟩⟩
    case round =>
      clear hA5 hr5 hJ5 hbW h00
      obtain ⟨hbw, i, hJi, (⟨k, v, gg, cap, hxi, hA, hr⟩ | ⟨rfl, la, lc, hA⟩)⟩ := hrel
      · have hil : i < xs.length := (List.getElem?_eq_some_iff.1 hxi).1
        have h500 := hch.1
        have hJs := hJ i wr (wr.setCell ⟨W.heap.size + 1, 0, none⟩ (.slice (some ⟨gg, 0, none⟩) 0 cap)) hJi ((Below.refl _ wr).setCell (p := ⟨W.heap.size + 1, 0, none⟩) (Nat.le_succ _) _)
        have hbs := hbw.setCell (p := ⟨W.heap.size + 1, 0, none⟩) (Nat.le_succ _) (.slice (some ⟨gg, 0, none⟩) 0 cap)
        obtain ⟨f1, t1, a1, b1, hy1, hR1⟩ := hY i (.iface k v) _ hxi hJs
        obtain ⟨cx, hcap, hgg⟩ := own_first hr
        have c0 := (hA.2 0 _ rfl).1
        have z0 := (hA.2 0 _ rfl).2
        have c1 := (hA.2 1 _ rfl).1
        have hi0 : (i : Int) + 1 ≤ 67108864 := by omega
        have hm0 := leftOf_at (n := xs.length) hA
        have hAs := hA.set 0 (.slice (some ⟨gg, 0, none⟩) 0 cap)
        have hrs := own_setCell (own_pop hr) (W.heap.size + 1) 0 (.slice (some ⟨gg, 0, none⟩) 0 cap) (Nat.lt_succ_self _)
        clear hA hr hJi
        gi_wp2
        refine ⟨fun h => (by cases h), hR1.mono ?_⟩
        rintro e W3 (⟨rfl, hJ3, hk3⟩ | ⟨rfl, hx3⟩)
        · have hA3 := hAs.later hk3
          have hr3 := own_later hrs hk3
          have hb3 : Below W.heap.size W W3 := hbs.trans (hk3.mono (by have := hbw.size; simp; omega))
          have hw3 := (hch.2 i _ hxi).2 W3 (hW.trans (hb3.mono hW.size))
          clear hAs hrs hbs hk3 hy1 hR1 hJs c0 z0 c1 cx
          rcases hnx : xs[i + 1]? with _ | y
          · rw [hnx] at hw3
            have HE : Hid (Calls Tryz.prog 125 #[.pointer (some ⟨W.heap.size + 1, 0, none⟩), .iface k v] W3 fun e w' => e = .returned (.tuple #[]) ∧ w' = W3) := enter_n (W.heap.size + 1) k v W3 hw3
            have hend : i + 1 = xs.length := by
              have := List.getElem?_eq_none_iff.1 hnx
              omega
            clear hw3
            gi_wp2_with fail
            refine ⟨trivial, fun h => (by cases h), (callsIn_wide.2 HE.out).mono ?_⟩
            rintro e W4 ⟨rfl, rfl⟩
            gi_wp2
            go_roundw
            case rel => exact ⟨hb3, i + 1, hJ3, .inr ⟨hend, some ⟨gg, 0, none⟩, cap, hA3⟩⟩
            case measure => rw [hm0, leftOf_at (n := xs.length) hA3]; omega
          · rw [hnx] at hw3
            obtain ⟨⟨ky, vy, rfl⟩, -⟩ := hch.2 (i + 1) y hnx
            have hi1 : i + 1 < xs.length := (List.getElem?_eq_some_iff.1 hnx).1
            have HE : Hid (Calls Tryz.prog 125 #[.pointer (some ⟨W.heap.size + 1, 0, none⟩), .iface k v] W3 fun e w' => e = .returned (.tuple #[]) ∧ (∃ gg cap : Nat, At w' (W.heap.size + 1) #[.slice (some ⟨gg, 0, none⟩) 1 cap, .int .i64 ((i : Int) + 1 + 1), .map (some W.heap.size), .int .i64 0] ∧ w'.ownsRow (W.heap.size + 1 + 1) 58 1 (.slice (some ⟨gg, 0, none⟩) 1 cap) 1 [.iface ky vy]) ∧ Below W.heap.size W3 w') :=
              enter_s W.heap.size (W.heap.size + 1) ((i : Int) + 1) 0 _ (some ⟨gg, 0, none⟩) cap ky vy k v W3 (Nat.le_succ _) hA3 hr3 (by omega) (by omega) hw3
            clear hw3 hA3 hr3
            gi_wp2_with fail
            refine ⟨trivial, fun h => (by cases h), (callsIn_wide.2 HE.out).mono ?_⟩
            rintro e W4 ⟨rfl, ⟨gg2, cap2, hA4, hr4⟩, hb4⟩
            gi_wp2
            go_roundw
            case rel => exact ⟨hb3.trans hb4, i + 1, hJ (i + 1) W3 W4 hJ3 hb4, .inl ⟨ky, vy, gg2, cap2, hnx, hA4, hr4⟩⟩
            case measure => rw [hm0, leftOf_at (n := xs.length) hA4]; omega
        · gi_wp2
          refine bodyPost_ret (results_none rfl _ _ _) rfl ?_
          exact ⟨⟨_, rfl⟩, .inr ⟨i, hil, hx3⟩⟩
      · have c0 := (hA.2 0 _ rfl).1
        have c1 := (hA.2 1 _ rfl).1
        gi_wp2
        go_end0
        exact ⟨⟨_, rfl⟩, .inl hJi⟩
end Go.Proofs.YthjbmloemmggaaaGreatDoor

namespace Go.Proofs.YthjbmloemmggaaaGreatDoor
open Go.RowKit Go.Shelf
attribute [local go_sem] Oper.semAt_some
set_option maxRecDepth 100000
set_option linter.unusedVariables false
set_option linter.unusedSimpArgs false
theorem fits80 (q : Addr) (w : World) : Calls Tryz.prog 92 #[.pointer (some q)] w fun e w' => e = .returned (.bool true) ∧ w' = w := by
  go_enter Tryz.func92, Tryz.ntmps92
  go_wp2
  go_ret
  exact ⟨rfl, rfl⟩
theorem inside_any (k : TypeId) (v : Value) (w : World) : Calls Tryz.prog 110 #[.iface k v] w fun e w' => e = .returned (.func (.func 123) #[] #[.pointer (some ⟨w.heap.size, 0, none⟩)]) ∧ w' = w.alloc (.cells #[.iface k v] 58) := by
  have hmf : ∀ (fn : Fn) (first cap : Array Value) (w : World), (Instr.makeFunc fn first cap).run Tryz.prog w = .ok (.func fn first cap) w := fun _ _ _ _ => rfl
  go_enter Tryz.func110, Tryz.ntmps110
  go_wp2
  go_ret
  exact ⟨rfl, rfl⟩
theorem inside_nil (w : World) : Calls Tryz.prog 110 #[.nilIface] w fun e w' => e = .returned (.func (.func 123) #[] #[.pointer (some ⟨w.heap.size, 0, none⟩)]) ∧ w' = w.alloc (.cells #[.nilIface] 58) := by
  have hmf : ∀ (fn : Fn) (first cap : Array Value) (w : World), (Instr.makeFunc fn first cap).run Tryz.prog w = .ok (.func fn first cap) w := fun _ _ _ _ => rfl
  go_enter Tryz.func110, Tryz.ntmps110
  go_wp2
  go_ret
  exact ⟨rfl, rfl⟩
set_option maxHeartbeats 4000000 in
theorem firstF (xs : List Value) (ok : Nat → Bool) (va : Nat → Addr) (k : TypeId) (v : Value) (w : World) (h00 : xs[0]?.getD .nilIface = .iface k v) (hch : ChainOf w xs)
    (hO0 : ∀ i x W, xs[i]? = some x → ok i = false → Below w.heap.size w W → Calls Tryz.prog 111 #[x] W fun e w' => e = .returned (.tuple #[.pointer none, .bool false]) ∧ Below W.heap.size W w')
    (hO1 : ∀ i x W, xs[i]? = some x → ok i = true → Below w.heap.size w W → Calls Tryz.prog 111 #[x] W fun e w' => e = .returned (.tuple #[.pointer (some (va i)), .bool true]) ∧ Below W.heap.size W w') :
    Calls Tryz.prog 91 #[.iface k v, .func (.func 92) #[] #[]] w fun e w' => ((∃ i, i < xs.length ∧ ok i = true ∧ (∀ j, j < i → ok j = false) ∧ e = .returned (.tuple #[.pointer (some (va i)), .bool true])) ∨ ((∀ j, j < xs.length → ok j = false) ∧ e = .returned (.tuple #[.pointer none, .bool false]))) ∧ Below w.heap.size w w' := by
  refine (callsIn_wide (n := 6)).1 ?_
  refine callsIn_of_wp_marks Tryz.func91 rfl trivial ?_ rfl
  simp only [Tryz.ntmps91, List.size_toArray, List.length_cons, List.length_nil, Nat.reduceAdd, Nat.reduceSub, Array.replicate_succ, Array.replicate_zero, List.push_toArray, List.append_toArray, List.nil_append, List.cons_append]
  gi_wp2_with (refine ⟨trivial, ?_⟩; gi_at_call 110; refine (callsIn_wide.2 (inside_any _ _ _)).mono ?_; rintro e w' ⟨rfl, rfl⟩)
  have e1 := bel1 w (.cells #[.func (.func 92) #[] #[]] 158)
  have e2 := bel1 (w.alloc (.cells #[.func (.func 92) #[] #[]] 158)) (.cells #[.pointer none] 103)
  have e3 := bel1 ((w.alloc (.cells #[.func (.func 92) #[] #[]] 158)).alloc (.cells #[.pointer none] 103)) (.cells #[.bool false] 4)
  have e4 := bel1 (((w.alloc (.cells #[.func (.func 92) #[] #[]] 158)).alloc (.cells #[.pointer none] 103)).alloc (.cells #[.bool false] 4)) (.cells #[.iface k v] 58)
  have hF := (((At.box w #[.func (.func 92) #[] #[]] 158).later e2).later e3).later e4
  have hV := ((At.box2 w (.cells #[.func (.func 92) #[] #[]] 158) #[.pointer none] 103).later e3).later e4
  have hK0 := (At.box2 (w.alloc (.cells #[.func (.func 92) #[] #[]] 158)) (.cells #[.pointer none] 103) #[.bool false] 4).later e4
  have hX0 := At.box2 ((w.alloc (.cells #[.func (.func 92) #[] #[]] 158)).alloc (.cells #[.pointer none] 103)) (.cells #[.bool false] 4) #[.iface k v] 58
  have hb0 := bt (bt (bt e1 e2) e3) e4
  have hsz : ((((w.alloc (.cells #[.func (.func 92) #[] #[]] 158)).alloc (.cells #[.pointer none] 103)).alloc (.cells #[.bool false] 4)).alloc (.cells #[.iface k v] 58)).heap.size = w.heap.size + 4 := by simp
  simp only [World.size_alloc] at hK0 hX0
  generalize hW0 : (((w.alloc (.cells #[.func (.func 92) #[] #[]] 158)).alloc (.cells #[.pointer none] 103)).alloc (.cells #[.bool false] 4)).alloc (.cells #[.iface k v] 58) = W0 at *
  clear e1 e2 e3 e4 hW0
  refine wpIn_range_it (α := Value) rfl (by omega) (gf := 123) (lb := #[.pointer (some ⟨w.heap.size + 1 + 1 + 1, 0, none⟩)]) rfl trivial (enters_of Tryz.func123 (by kernel_rfl) rfl)
    (inside_it (6 - 1) (w.heap.size + 1 + 1 + 1) xs W0 (by rw [h00]; exact hX0) ⟨hch.1, fun i x hx => ⟨(hch.2 i x hx).1, fun W hW => (hch.2 i x hx).2 W (bt hb0 hW)⟩⟩) (Below.refl _ _) (fun _ => rfl)
    (fun i W => Below W0.heap.size W0 W ∧ ∀ j, j < i → ok j = false)
    (fun i W => (ok i = true ∧ ∀ j, j < i → ok j = false) ∧ Below w.heap.size w W ∧ At W (w.heap.size + 1) #[.pointer (some (va i))] ∧ At W (w.heap.size + 1 + 1) #[.bool true])
    ⟨Below.refl _ _, fun j h => (by omega)⟩ (fun i s A B hs h hb => ⟨h.1.trans (hb.mono (by omega)), h.2⟩) (fun s k A B o hk hA _ hb => (hb.block k hk).trans hA)
    (fun i A o h => ⟨h.1.trans ((bel1 A o).mono h.1.size), h.2⟩) (fun i A l o o' hl ho _ h => ⟨below_put h.1 o' ho hl, h.2⟩)
    (fun i A l o o' hl ho hc h => ⟨h.1, below_put h.2.1 o' ho (by omega), h.2.2.1.put o' ho hc, h.2.2.2.put o' ho hc⟩) (Bd := fun A B => Below A.heap.size A B) (fun A B l o o' hl hb => round_below hl hb)
    (fun x => { tmps := #[.iface k v, .func (.func 92) #[] #[], undef, .pointer (some ⟨w.heap.size, 0, none⟩), .pointer (some ⟨w.heap.size + 1, 0, none⟩), .pointer (some ⟨w.heap.size + 1 + 1, 0, none⟩), x, undef, undef, .iface k v, .func (.func 123) #[] #[.pointer (some ⟨w.heap.size + 1 + 1 + 1, 0, none⟩)], x, undef, undef, undef, undef, undef, undef, undef, undef, undef, undef, undef, undef, undef], defers := [] }) ?assign ?body ?done ?stop
  case assign =>
    intro l x W K hK
    gi_wp2
    exact hK
  case body =>
    rintro l i x W hx hsw ⟨hb, hno⟩
    obtain ⟨⟨kx, vx, rfl⟩, -⟩ := hch.2 i x hx
    have hbw := bt hb0 hb
    rcases hok : ok i with _ | _
    · have HO : Hid (Calls Tryz.prog 111 #[.iface kx vx] W fun e w' => e = .returned (.tuple #[.pointer none, .bool false]) ∧ Below W.heap.size W w') := hO0 i _ W hx hok hbw
      gi_wp2_with fail
      refine ⟨trivial, (CallsIn.inRound l (callsIn_wide.2 HO.out)).mono ?_⟩
      rintro e W2 ⟨rfl, hb2⟩
      gi_wp2
      refine ⟨fun _ h => (by cases h), ?_⟩
      gi_wp2
      exact ⟨keepsFrom_of_below hb2, hb2, bt hb hb2, fun j hj => by
        rcases Nat.lt_or_ge j i with h | h
        · exact hno j h
        · obtain rfl : j = i := by omega
          exact hok⟩
    · have HO : Hid (Calls Tryz.prog 111 #[.iface kx vx] W fun e w' => e = .returned (.tuple #[.pointer (some (va i)), .bool true]) ∧ Below W.heap.size W w') := hO1 i _ W hx hok hbw
      gi_wp2_with fail
      refine ⟨trivial, (CallsIn.inRound l (callsIn_wide.2 HO.out)).mono ?_⟩
      rintro e W2 ⟨rfl, hb2⟩
      have hF2 := (hF.later hb).later hb2
      have hV2 := (hV.later hb).later hb2
      have hK2 := (hK0.later hb).later hb2
      have cf := (hF2.2 0 _ rfl).1
      have cv := (hV2.2 0 _ rfl).1
      have zv := (hV2.2 0 _ rfl).2
      have ck := (hK2.2 0 _ rfl).1
      have zk := (hK2.2 0 _ rfl).2
      gi_wp2_with fail
      refine ⟨trivial, (CallsIn.inRound l (callsIn_wide.2 (fits80 _ _))).mono ?_⟩
      rintro e W3 ⟨rfl, rfl⟩
      gi_wp2
      exact ⟨(keepsFrom_of_below hb2).trans (((KeepsOthers.setCell _ _ _).trans (KeepsOthers.setCell _ _ _)).from _), ⟨hok, hno⟩, ((bt hbw hb2).setCell (p := ⟨w.heap.size + 1, 0, none⟩) (Nat.le_succ _) _).setCell (p := ⟨w.heap.size + 1 + 1, 0, none⟩) (by show w.heap.size ≤ w.heap.size + 1 + 1; omega) _, (hV2.set 0 _).keep (by omega) 0 _, (hK2.keep (by omega) 0 _).set 0 _⟩
  case done =>
    rintro D W hD ⟨hb, hno⟩ hK
    have hV2 := hV.later hb
    have hK2 := hK0.later hb
    have cv := (hV2.2 0 _ rfl).1
    have zv := (hV2.2 0 _ rfl).2
    have ck := (hK2.2 0 _ rfl).1
    have zk := (hK2.2 0 _ rfl).2
    gi_wp2
    have hV3 := (hV2.set 0 (.pointer none)).keep (b := w.heap.size + 1 + 1) (by omega) 0 (.bool false)
    have hK3 := (hK2.keep (b := w.heap.size + 1) (by omega) 0 (.pointer none)).set 0 (.bool false)
    have hD3 := ((KeepsOthers.setCell W ⟨w.heap.size + 1, 0, none⟩ (.pointer none)).trans (KeepsOthers.setCell _ ⟨w.heap.size + 1 + 1, 0, none⟩ (.bool false))).same D _ hK rfl
    have hb3 := ((bt hb0 hb).setCell (p := ⟨w.heap.size + 1, 0, none⟩) (Nat.le_succ _) (.pointer none)).setCell (p := ⟨w.heap.size + 1 + 1, 0, none⟩) (by show w.heap.size ≤ w.heap.size + 1 + 1; omega) (.bool false)
    refine ⟨by simp, .inl ⟨_, _, rfl, run_takeDeferred hD3, ?_⟩⟩
    have hVf := hV3.put (.deferred none) hD3 rfl
    have hKf := hK3.put (.deferred none) hD3 rfl
    have c4 := (hVf.2 0 _ rfl).1
    have c5 := (hKf.2 0 _ rfl).1
    exact ⟨.tuple #[.pointer none, .bool false], by simp [results, Tryz.results91, go_sem, c4, c5], .inr ⟨hno, rfl⟩, below_put hb3 _ hD3 (by omega)⟩
  case stop =>
    rintro D i W hD hi ⟨⟨hok, hno⟩, hb, hV2, hK2⟩ hK
    gi_wp2
    refine ⟨by simp, .inl ⟨_, _, rfl, run_takeDeferred hK, ?_⟩⟩
    have hVf := hV2.put (.deferred none) hK rfl
    have hKf := hK2.put (.deferred none) hK rfl
    have c4 := (hVf.2 0 _ rfl).1
    have c5 := (hKf.2 0 _ rfl).1
    exact ⟨.tuple #[.pointer (some (va i)), .bool true], by simp [results, Tryz.results91, go_sem, c4, c5], .inl ⟨i, hi, hok, hno, rfl⟩, below_put hb _ hK (by omega)⟩
set_option maxHeartbeats 4000000 in
theorem firstFn (xs : List Value) (ok : Nat → Bool) (va : Nat → Addr) (w : World) (h00 : xs[0]?.getD .nilIface = .nilIface) (hch : ChainOf w xs)
    (hO0 : ∀ i x W, xs[i]? = some x → ok i = false → Below w.heap.size w W → Calls Tryz.prog 111 #[x] W fun e w' => e = .returned (.tuple #[.pointer none, .bool false]) ∧ Below W.heap.size W w')
    (hO1 : ∀ i x W, xs[i]? = some x → ok i = true → Below w.heap.size w W → Calls Tryz.prog 111 #[x] W fun e w' => e = .returned (.tuple #[.pointer (some (va i)), .bool true]) ∧ Below W.heap.size W w') :
    Calls Tryz.prog 91 #[.nilIface, .func (.func 92) #[] #[]] w fun e w' => ((∃ i, i < xs.length ∧ ok i = true ∧ (∀ j, j < i → ok j = false) ∧ e = .returned (.tuple #[.pointer (some (va i)), .bool true])) ∨ ((∀ j, j < xs.length → ok j = false) ∧ e = .returned (.tuple #[.pointer none, .bool false]))) ∧ Below w.heap.size w w' := by
  refine (callsIn_wide (n := 6)).1 ?_
  refine callsIn_of_wp_marks Tryz.func91 rfl trivial ?_ rfl
  simp only [Tryz.ntmps91, List.size_toArray, List.length_cons, List.length_nil, Nat.reduceAdd, Nat.reduceSub, Array.replicate_succ, Array.replicate_zero, List.push_toArray, List.append_toArray, List.nil_append, List.cons_append]
  gi_wp2_with (refine ⟨trivial, ?_⟩; gi_at_call 110; refine (callsIn_wide.2 (inside_nil _)).mono ?_; rintro e w' ⟨rfl, rfl⟩)
  have e1 := bel1 w (.cells #[.func (.func 92) #[] #[]] 158)
  have e2 := bel1 (w.alloc (.cells #[.func (.func 92) #[] #[]] 158)) (.cells #[.pointer none] 103)
  have e3 := bel1 ((w.alloc (.cells #[.func (.func 92) #[] #[]] 158)).alloc (.cells #[.pointer none] 103)) (.cells #[.bool false] 4)
  have e4 := bel1 (((w.alloc (.cells #[.func (.func 92) #[] #[]] 158)).alloc (.cells #[.pointer none] 103)).alloc (.cells #[.bool false] 4)) (.cells #[.nilIface] 58)
  have hF := (((At.box w #[.func (.func 92) #[] #[]] 158).later e2).later e3).later e4
  have hV := ((At.box2 w (.cells #[.func (.func 92) #[] #[]] 158) #[.pointer none] 103).later e3).later e4
  have hK0 := (At.box2 (w.alloc (.cells #[.func (.func 92) #[] #[]] 158)) (.cells #[.pointer none] 103) #[.bool false] 4).later e4
  have hX0 := At.box2 ((w.alloc (.cells #[.func (.func 92) #[] #[]] 158)).alloc (.cells #[.pointer none] 103)) (.cells #[.bool false] 4) #[.nilIface] 58
  have hb0 := bt (bt (bt e1 e2) e3) e4
  have hsz : ((((w.alloc (.cells #[.func (.func 92) #[] #[]] 158)).alloc (.cells #[.pointer none] 103)).alloc (.cells #[.bool false] 4)).alloc (.cells #[.nilIface] 58)).heap.size = w.heap.size + 4 := by simp
  simp only [World.size_alloc] at hK0 hX0
  generalize hW0 : (((w.alloc (.cells #[.func (.func 92) #[] #[]] 158)).alloc (.cells #[.pointer none] 103)).alloc (.cells #[.bool false] 4)).alloc (.cells #[.nilIface] 58) = W0 at *
  clear e1 e2 e3 e4 hW0
  refine wpIn_range_it (α := Value) rfl (by omega) (gf := 123) (lb := #[.pointer (some ⟨w.heap.size + 1 + 1 + 1, 0, none⟩)]) rfl trivial (enters_of Tryz.func123 (by kernel_rfl) rfl)
    (inside_it (6 - 1) (w.heap.size + 1 + 1 + 1) xs W0 (by rw [h00]; exact hX0) ⟨hch.1, fun i x hx => ⟨(hch.2 i x hx).1, fun W hW => (hch.2 i x hx).2 W (bt hb0 hW)⟩⟩) (Below.refl _ _) (fun _ => rfl)
    (fun i W => Below W0.heap.size W0 W ∧ ∀ j, j < i → ok j = false)
    (fun i W => (ok i = true ∧ ∀ j, j < i → ok j = false) ∧ Below w.heap.size w W ∧ At W (w.heap.size + 1) #[.pointer (some (va i))] ∧ At W (w.heap.size + 1 + 1) #[.bool true])
    ⟨Below.refl _ _, fun j h => (by omega)⟩ (fun i s A B hs h hb => ⟨h.1.trans (hb.mono (by omega)), h.2⟩) (fun s k A B o hk hA _ hb => (hb.block k hk).trans hA)
    (fun i A o h => ⟨h.1.trans ((bel1 A o).mono h.1.size), h.2⟩) (fun i A l o o' hl ho _ h => ⟨below_put h.1 o' ho hl, h.2⟩)
    (fun i A l o o' hl ho hc h => ⟨h.1, below_put h.2.1 o' ho (by omega), h.2.2.1.put o' ho hc, h.2.2.2.put o' ho hc⟩) (Bd := fun A B => Below A.heap.size A B) (fun A B l o o' hl hb => round_below hl hb)
    (fun x => { tmps := #[.nilIface, .func (.func 92) #[] #[], undef, .pointer (some ⟨w.heap.size, 0, none⟩), .pointer (some ⟨w.heap.size + 1, 0, none⟩), .pointer (some ⟨w.heap.size + 1 + 1, 0, none⟩), x, undef, undef, .nilIface, .func (.func 123) #[] #[.pointer (some ⟨w.heap.size + 1 + 1 + 1, 0, none⟩)], x, undef, undef, undef, undef, undef, undef, undef, undef, undef, undef, undef, undef, undef], defers := [] }) ?assign ?body ?done ?stop
  case assign =>
    intro l x W K hK
    gi_wp2
    exact hK
  case body =>
    rintro l i x W hx hsw ⟨hb, hno⟩
    obtain ⟨⟨kx, vx, rfl⟩, -⟩ := hch.2 i x hx
    have hbw := bt hb0 hb
    rcases hok : ok i with _ | _
    · have HO : Hid (Calls Tryz.prog 111 #[.iface kx vx] W fun e w' => e = .returned (.tuple #[.pointer none, .bool false]) ∧ Below W.heap.size W w') := hO0 i _ W hx hok hbw
      gi_wp2_with fail
      refine ⟨trivial, (CallsIn.inRound l (callsIn_wide.2 HO.out)).mono ?_⟩
      rintro e W2 ⟨rfl, hb2⟩
      gi_wp2
      refine ⟨fun _ h => (by cases h), ?_⟩
      gi_wp2
      exact ⟨keepsFrom_of_below hb2, hb2, bt hb hb2, fun j hj => by
        rcases Nat.lt_or_ge j i with h | h
        · exact hno j h
        · obtain rfl : j = i := by omega
          exact hok⟩
    · have HO : Hid (Calls Tryz.prog 111 #[.iface kx vx] W fun e w' => e = .returned (.tuple #[.pointer (some (va i)), .bool true]) ∧ Below W.heap.size W w') := hO1 i _ W hx hok hbw
      gi_wp2_with fail
      refine ⟨trivial, (CallsIn.inRound l (callsIn_wide.2 HO.out)).mono ?_⟩
      rintro e W2 ⟨rfl, hb2⟩
      have hF2 := (hF.later hb).later hb2
      have hV2 := (hV.later hb).later hb2
      have hK2 := (hK0.later hb).later hb2
      have cf := (hF2.2 0 _ rfl).1
      have cv := (hV2.2 0 _ rfl).1
      have zv := (hV2.2 0 _ rfl).2
      have ck := (hK2.2 0 _ rfl).1
      have zk := (hK2.2 0 _ rfl).2
      gi_wp2_with fail
      refine ⟨trivial, (CallsIn.inRound l (callsIn_wide.2 (fits80 _ _))).mono ?_⟩
      rintro e W3 ⟨rfl, rfl⟩
      gi_wp2
      exact ⟨(keepsFrom_of_below hb2).trans (((KeepsOthers.setCell _ _ _).trans (KeepsOthers.setCell _ _ _)).from _), ⟨hok, hno⟩, ((bt hbw hb2).setCell (p := ⟨w.heap.size + 1, 0, none⟩) (Nat.le_succ _) _).setCell (p := ⟨w.heap.size + 1 + 1, 0, none⟩) (by show w.heap.size ≤ w.heap.size + 1 + 1; omega) _, (hV2.set 0 _).keep (by omega) 0 _, (hK2.keep (by omega) 0 _).set 0 _⟩
  case done =>
    rintro D W hD ⟨hb, hno⟩ hK
    have hV2 := hV.later hb
    have hK2 := hK0.later hb
    have cv := (hV2.2 0 _ rfl).1
    have zv := (hV2.2 0 _ rfl).2
    have ck := (hK2.2 0 _ rfl).1
    have zk := (hK2.2 0 _ rfl).2
    gi_wp2
    have hV3 := (hV2.set 0 (.pointer none)).keep (b := w.heap.size + 1 + 1) (by omega) 0 (.bool false)
    have hK3 := (hK2.keep (b := w.heap.size + 1) (by omega) 0 (.pointer none)).set 0 (.bool false)
    have hD3 := ((KeepsOthers.setCell W ⟨w.heap.size + 1, 0, none⟩ (.pointer none)).trans (KeepsOthers.setCell _ ⟨w.heap.size + 1 + 1, 0, none⟩ (.bool false))).same D _ hK rfl
    have hb3 := ((bt hb0 hb).setCell (p := ⟨w.heap.size + 1, 0, none⟩) (Nat.le_succ _) (.pointer none)).setCell (p := ⟨w.heap.size + 1 + 1, 0, none⟩) (by show w.heap.size ≤ w.heap.size + 1 + 1; omega) (.bool false)
    refine ⟨by simp, .inl ⟨_, _, rfl, run_takeDeferred hD3, ?_⟩⟩
    have hVf := hV3.put (.deferred none) hD3 rfl
    have hKf := hK3.put (.deferred none) hD3 rfl
    have c4 := (hVf.2 0 _ rfl).1
    have c5 := (hKf.2 0 _ rfl).1
    exact ⟨.tuple #[.pointer none, .bool false], by simp [results, Tryz.results91, go_sem, c4, c5], .inr ⟨hno, rfl⟩, below_put hb3 _ hD3 (by omega)⟩
  case stop =>
    rintro D i W hD hi ⟨⟨hok, hno⟩, hb, hV2, hK2⟩ hK
    gi_wp2
    refine ⟨by simp, .inl ⟨_, _, rfl, run_takeDeferred hK, ?_⟩⟩
    have hVf := hV2.put (.deferred none) hK rfl
    have hKf := hK2.put (.deferred none) hK rfl
    have c4 := (hVf.2 0 _ rfl).1
    have c5 := (hKf.2 0 _ rfl).1
    exact ⟨.tuple #[.pointer (some (va i)), .bool true], by simp [results, Tryz.results91, go_sem, c4, c5], .inl ⟨i, hi, hok, hno, rfl⟩, below_put hb _ hK (by omega)⟩
end Go.Proofs.YthjbmloemmggaaaGreatDoor

namespace Go.Proofs.YthjbmloemmggaaaGreatDoor
open Go.RowKit
set_option maxRecDepth 100000
set_option linter.unusedVariables false
set_option linter.unusedSimpArgs false
theorem chain_nil (w : World) : ChainOf w [] := ⟨by simp, fun i x h => by simp at h⟩
theorem chain_fail (p : Nat) (l : ByteArray) (a c : Int) (w : World) (h : At w p #[.string l, .int .i64 a, .iface 27 (.int .i64 c)]) : ChainOf w [.iface 103 (.pointer (some ⟨p, 0, none⟩)), .iface 27 (.int .i64 c)] := by
  refine ⟨by simp, fun i x hx => ?_⟩
  match i, hx with
  | 0, hx =>
    obtain rfl : .iface 103 (.pointer (some ⟨p, 0, none⟩)) = x := by simpa using hx
    exact ⟨⟨_, _, rfl⟩, fun W hW => wrap_fail p l a 27 (.int .i64 c) W (h.later hW)⟩
  | 1, hx =>
    obtain rfl : .iface 27 (.int .i64 c) = x := by simpa using hx
    exact ⟨⟨_, _, rfl⟩, fun W hW => wrap_code c W⟩
  | n + 2, hx => simp at hx
set_option maxHeartbeats 1000000 in
theorem Ffirst_fail (p : Nat) (l : ByteArray) (a c : Int) (w : World) (hE : Ety w) (h : At w p #[.string l, .int .i64 a, .iface 27 (.int .i64 c)]) :
    Calls Tryz.prog 91 #[.iface 103 (.pointer (some ⟨p, 0, none⟩)), .func (.func 92) #[] #[]] w fun e w' => e = .returned (.tuple #[.pointer (some ⟨p, 0, none⟩), .bool true]) ∧ Below w.heap.size w w' := by
  refine (firstF [.iface 103 (.pointer (some ⟨p, 0, none⟩)), .iface 27 (.int .i64 c)] (fun i => match i with | 0 => true | _ => false) (fun _ => ⟨p, 0, none⟩) 103 (.pointer (some ⟨p, 0, none⟩)) w rfl (chain_fail p l a c w h) ?_ ?_).mono ?_
  · intro i x W hx hok hW
    match i, hx, hok with
    | 0, hx, hok => simp at hok
    | 1, hx, hok =>
      obtain rfl : .iface 27 (.int .i64 c) = x := by simpa using hx
      exact own124_code c W
    | n + 2, hx, hok => simp at hx
  · intro i x W hx hok hW
    match i, hx, hok with
    | 0, hx, hok =>
      obtain rfl : .iface 103 (.pointer (some ⟨p, 0, none⟩)) = x := by simpa using hx
      exact own124_fail p W (hE.later hW)
    | 1, hx, hok => simp at hok
    | n + 2, hx, hok => simp at hx
  · rintro e w' ⟨(⟨i, hi, hok, hno, rfl⟩ | ⟨hno, rfl⟩), hb⟩
    · exact ⟨rfl, hb⟩
    · have := hno 0 (by simp)
      simp at this
theorem Ffirst_nil (w : World) :
    Calls Tryz.prog 91 #[.nilIface, .func (.func 92) #[] #[]] w fun e w' => e = .returned (.tuple #[.pointer none, .bool false]) ∧ Below w.heap.size w w' := by
  refine (firstFn [] (fun _ => false) (fun _ => ⟨0, 0, none⟩) w rfl (chain_nil w) (fun i x W hx => by simp at hx) (fun i x W hx => by simp at hx)).mono ?_
  rintro e w' ⟨(⟨i, hi, hok, hno, rfl⟩ | ⟨hno, rfl⟩), hb⟩
  · simp at hi
  · exact ⟨rfl, hb⟩
set_option maxHeartbeats 1000000 in
theorem out_fail (p : Nat) (l : ByteArray) (a c : Int) (w : World) (hE : Ety w) (h : At w p #[.string l, .int .i64 a, .iface 27 (.int .i64 c)]) : Calls Tryz.prog 69 #[.iface 103 (.pointer (some ⟨p, 0, none⟩))] w fun e w' => e = .returned (.tuple #[.pointer (some ⟨p, 0, none⟩), .bool true]) ∧ Below w.heap.size w w' := by
  go_enter Tryz.func69, Tryz.ntmps69
  go_wp2_with fail
  refine (Ffirst_fail p l a c w hE h).mono ?_
  rintro e w1 ⟨rfl, hb⟩
  go_wp2
  go_ret2
  exact ⟨rfl, hb⟩
set_option maxHeartbeats 1000000 in
theorem out_nil (w : World)  : Calls Tryz.prog 69 #[.nilIface] w fun e w' => e = .returned (.tuple #[.pointer none, .bool false]) ∧ Below w.heap.size w w' := by
  go_enter Tryz.func69, Tryz.ntmps69
  go_wp2_with fail
  refine (Ffirst_nil w).mono ?_
  rintro e w1 ⟨rfl, hb⟩
  go_wp2
  go_ret2
  exact ⟨rfl, hb⟩
set_option maxHeartbeats 4000000 in
theorem shift_fail (p : Nat) (l : ByteArray) (a c : Int) (b : Int) (w : World) (hE : Ety w) (h : At w p #[.string l, .int .i64 a, .iface 27 (.int .i64 c)]) (ha0 : 0 ≤ a) (ha1 : a ≤ 140737488365328) (hb0 : -1000 < b) (hb1 : b < 1000) : Calls Tryz.prog 52 #[.iface 103 (.pointer (some ⟨p, 0, none⟩)), .int .i64 b] w fun e w' => ∃ q, e = .returned (.iface 103 (.pointer (some ⟨q, 0, none⟩))) ∧ w.heap.size ≤ q ∧ At w' q #[.string l, .int .i64 (a + b), .iface 27 (.int .i64 c)] ∧ Below w.heap.size w w' := by
  have hw : IntKind.i64.wrap (a + b) = a + b := by rw [IntKind.wrap_i64]; omega
  have hbu : ∀ W, (Instr.build 105 #[(0, .string l), (1, .int .i64 (a + b)), (2, .iface 27 (.int .i64 c))]).run Tryz.prog W = .ok (.agg #[.string l, .int .i64 (a + b), .iface 27 (.int .i64 c)]) W := fun W => run_build W 105 _ _ (by kernel_rfl)
  go_enter Tryz.func52, Tryz.ntmps52
  go_wp2_with fail
  refine (out_fail p l a c w hE h).mono ?_
  rintro e w1 ⟨rfl, hb⟩
  replace h := h.later hb
  have c0 := (h.2 0 _ rfl).1
  have c1 := (h.2 1 _ rfl).1
  have c2 := (h.2 2 _ rfl).1
  go_wp2
  go_region
  go_wp2
  go_ret
  exact ⟨_, rfl, by simpa using hb.size, At.box w1.drew #[.string l, .int .i64 (a + b), .iface 27 (.int .i64 c)] 105, bt hb.drew (bel1 w1.drew _)⟩
set_option maxHeartbeats 2000000 in
theorem shift_nil (b : Int) (w : World)  : Calls Tryz.prog 52 #[.nilIface, .int .i64 b] w fun e w' => e = .returned (.nilIface) ∧ Below w.heap.size w w' := by
  go_enter Tryz.func52, Tryz.ntmps52
  go_wp2_with fail
  refine (out_nil w).mono ?_
  rintro e w1 ⟨rfl, hb⟩
  go_wp2
  go_ret
  exact ⟨rfl, hb⟩
end Go.Proofs.YthjbmloemmggaaaGreatDoor
