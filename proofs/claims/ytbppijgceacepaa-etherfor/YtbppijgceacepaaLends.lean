/- The contracts of the lists that the laws lend: a copy of a list of numbers with one number behind it, and that both are as they were. -/
import Derived.Test.YtbppijgceacepaaFors
import Derived.Laws.AppendOwn
import Derived.Laws.AppendOwnNone
import Derived.Laws.OwnMore
namespace Go.Proofs.Ytbppijgceacepaa
open Go.RowKit

theorem Try.info3 : (Try.prog.info? 3).map (fun i => (i.zero, i.size, i.bytes)) = some (some (.int .i64 0), 1, 8) := by kernel_rfl
theorem ints_one (zs : List Int) : ∀ u ∈ zs.map (Value.int .i64), u.oneCell' = true := by
  intro u hu
  obtain ⟨_, _, rfl⟩ := List.mem_map.1 hu
  rfl
theorem ints_at (zs : List Int) (j : Nat) (h : j < zs.length) : (zs.map (Value.int .i64))[j]? = some (.int .i64 (zs.getD j 0)) := by
  simp [List.getD, List.getElem?_eq_getElem h]

/-- What is lent: a row of the call's own that holds the numbers, and -77 behind them. -/
def Lent (w : World) (g cap : Nat) (zs : List Int) : Prop :=
  zs.length + 1 ≤ cap ∧ Row w (some ⟨g, 0, none⟩) zs ∧ w.cell? ⟨g, zs.length, none⟩ = some (.int .i64 (-77))
theorem Lent.later {w x : World} {g cap : Nat} {zs : List Int} (h : Lent w g cap zs) (hb : Below w.heap.size w x) : Lent x g cap zs :=
  ⟨h.1, h.2.1.later hb, Ytbppijgceacepaa.later hb h.2.2⟩

theorem lent_of {w : World} {base g cap : Nat} {zs : List Int} (h : w.ownsRow base 3 1 (.slice (some ⟨g, 0, none⟩) (zs.length + 1) cap) (zs.length + 1) (zs.map (Value.int .i64) ++ [.int .i64 (-77)])) : Lent w g cap zs := by
  have hcap : zs.length + 1 ≤ cap := by
    rcases h.2 with ⟨h0, _⟩ | ⟨g', cap', cur, hv, hg, _, hn, hcap, _, _⟩
    · cases h0
    · cases hv; exact hn
  refine ⟨hcap, Or.inr ⟨g, 0, rfl, fun j hj => ?_⟩, ?_⟩
  · have := h.cellAt j (by omega)
    rw [List.getElem?_append_left (by simpa using hj), ints_at zs j hj] at this
    rw [Nat.zero_add]
    exact this
  · have := h.cellAt zs.length (by omega)
    rw [List.getElem?_append_right (by simp)] at this
    simpa using this

set_option maxHeartbeats 1000000 in
theorem lend_any (a : Option Addr) (cap : Nat) (zs : List Int) (w : World) (hz : zs.length * 8 ≤ 140737488351232) (hr : Row w a zs) (hn : a = none → zs = []) :
    Calls Try.prog 9 #[.slice a zs.length cap] w fun e w' => ∃ g cap', e = .returned (.slice (some ⟨g, 0, none⟩) zs.length cap') ∧ Lent w' g cap' zs ∧ Below w.heap.size w w' := by
  obtain ⟨i0, hi, hz0, hz1, hz2⟩ := info_parts Try.info3
  have hown : (w.alloc (.cells #[] 3)).ownsRow w.heap.size 3 1 (.slice (some ⟨w.heap.size, 0, none⟩) 0 0) 0 [] := World.ownsRow_lit w #[] 0 (Nat.le_refl _) (Nat.zero_le _) rfl
  have hb0 : Below w.heap.size w (w.alloc (.cells #[] 3)) := bel1 w _
  cases a with
  | none =>
    obtain rfl := hn rfl
    clear hr hn
    have hown3 := hown.alloc (.cells #[.int .i64 (-77)] 3)
    have hsz : w.heap.size ≤ ((w.alloc (.cells #[] 3)).alloc (.cells #[.int .i64 (-77)] 3)).heap.size := Nat.le_trans hb0.size (bel1 _ _).size
    have HB : Hid (Below w.heap.size w ((w.alloc (.cells #[] 3)).alloc (.cells #[.int .i64 (-77)] 3))) := hb0.alloc hb0.size _
    clear hb0
    go_enter Try.func9, Try.ntmps9
    go_wp2_with (first | (at_builtin; refine wpList_append_own_none rfl _ _ 24 rfl w.heap.size 3 i0 1 Try.underlying24 hi _ _ _ rfl hown rfl ?_) | (at_builtin; refine wpList_append_own _ rfl _ _ 24 rfl w.heap.size 3 i0 (.int .i64 0) 1 8 Try.underlying24 hi hz0 hz1 hz2 rfl (by decide) _ _ _ rfl hown3 ⟨w.heap.size + 1, 0, none⟩ 1 1 [.int .i64 (-77)] rfl (by simp) ?d2 (by simp [Value.oneCell']) ?d3 ?d4 hsz ?_))
    case d2 =>
      intro j u hu
      have hj : j = 0 := by have := (List.getElem?_eq_some_iff.1 hu).1; simpa using this
      subst hj
      have hu' : u = .int .i64 (-77) := by simpa using hu.symm
      subst hu'
      have hq : ((w.alloc (.cells #[] 3)).alloc (.cells #[.int .i64 (-77)] 3)).cell? ⟨(w.alloc (.cells #[] 3)).heap.size, 0, none⟩ = some (.int .i64 (-77)) := by simp
      rw [show (w.alloc (.cells #[] 3)).heap.size = w.heap.size + 1 by simp] at hq
      exact hq
    case d3 => decide
    case d4 => decide
    intro v2 w2 hown4 hgrow2 hn2
    have hbel2 : Below w.heap.size w w2 := HB.out.grown hgrow2 hsz (fun k e => by simp [Value.ownBlock] at e; omega)
    rcases hown4.2 with ⟨h, _⟩ | ⟨g2, cap2, cur2, rfl, -, -, hcp, hcm, -⟩
    · exact absurd h (by simpa using hn2)
    have hL := lent_of (zs := []) (by simpa using hown4)
    unfold maxLen at hcm
    clear hown4 hgrow2 hn2 hown3 hown hi hz0 hz1 hz2
    go_wp2
    go_ret
    exact ⟨g2, cap2, rfl, hL, hbel2⟩
  | some x =>
    have HC : Hid (∀ j u, (zs.map (Value.int .i64))[j]? = some u → (w.alloc (.cells #[] 3)).cell? (x.add j) = some u) := by
      intro j u hu
      have hj : j < zs.length := by
        have := (List.getElem?_eq_some_iff.1 hu).1
        simpa using this
      rcases hr with rfl | ⟨b, off, hx, hc⟩
      · simp at hj
      · cases hx
        rw [ints_at zs j hj] at hu
        rw [← Option.some.inj hu, Addr.add_lit]
        exact later hb0 (hc j hj)
    clear hr hn
    go_enter Try.func9, Try.ntmps9
    go_wp2_with (first | (at_builtin; refine wpList_append_own _ rfl _ _ 24 rfl w.heap.size 3 i0 (.int .i64 0) 1 8 Try.underlying24 hi hz0 hz1 hz2 rfl (by decide) _ _ _ rfl hown x zs.length cap (zs.map (Value.int .i64)) rfl (by simp) HC.out (ints_one zs) ?c3 ?c4 ?c5 ?_))
    case c3 => unfold maxLen; omega
    case c4 => omega
    case c5 => simp
    intro v' w1 hown2 hgrow hn
    have hbel : Below w.heap.size w w1 := hb0.grown hgrow (by simp) (fun k e => by simp [Value.ownBlock] at e; omega)
    have h2 := hown2.2
    rcases h2 with ⟨h, _⟩ | ⟨g, cap', cur, rfl, hg, -⟩
    · exact absurd h hn
    clear hgrow hn hown hb0
    have hown3 := hown2.alloc (.cells #[.int .i64 (-77)] 3)
    have hsz : w.heap.size ≤ (w1.alloc (.cells #[.int .i64 (-77)] 3)).heap.size := Nat.le_trans hbel.size (bel1 w1 _).size
    have HB : Hid (Below w.heap.size w (w1.alloc (.cells #[.int .i64 (-77)] 3))) := hbel.alloc hbel.size _
    go_wp2_with (first | (at_builtin; refine wpList_append_own _ rfl _ _ 24 rfl w.heap.size 3 i0 (.int .i64 0) 1 8 Try.underlying24 hi hz0 hz1 hz2 rfl (by decide) _ _ _ rfl hown3 ⟨w1.heap.size, 0, none⟩ 1 1 [.int .i64 (-77)] rfl (by simp) ?d2 (by simp [Value.oneCell']) ?d3 ?d4 hsz ?_))
    case d2 =>
      intro j u hu
      have hj : j = 0 := by have := (List.getElem?_eq_some_iff.1 hu).1; simpa using this
      subst hj
      have hu' : u = .int .i64 (-77) := by simpa using hu.symm
      subst hu'
      simp [Addr.add]
    case d3 => unfold maxLen; omega
    case d4 => omega
    intro v2 w2 hown4 hgrow2 hn2
    have hbel2 : Below w.heap.size w w2 := HB.out.grown hgrow2 hsz (fun k e => by simp [Value.ownBlock] at e; omega)
    rcases hown4.2 with ⟨h, _⟩ | ⟨g2, cap2, cur2, rfl, -, -, hcp, hcm, -⟩
    · exact absurd h (by simpa using hn2)
    have hL := lent_of (zs := zs) (by simpa using hown4)
    unfold maxLen at hcm
    clear hown4 hgrow2 hn2 hown3 hown2 hi hz0 hz1 hz2
    go_wp2
    go_ret
    exact ⟨g2, cap2, rfl, hL, hbel2⟩

set_option maxHeartbeats 1000000 in
theorem kept_any (g cap' : Nat) (a : Option Addr) (cap : Nat) (zs : List Int) (w : World) (hz : zs.length * 8 ≤ 140737488351232) (hL : Lent w g cap' zs) (hr : Row w a zs) :
    Calls Try.prog 14 #[.slice (some ⟨g, 0, none⟩) zs.length cap', .slice a zs.length cap] w fun e w' => e = .returned (.bool true) ∧ Below w.heap.size w w' := by
  obtain ⟨h1, h2, h3⟩ := hL
  have hq : zs.length + 1 ≤ 140737488355328 := by omega
  go_enter Try.func14, Try.ntmps14
  go_wp2_with fail
  refine (same_any _ _ _ _ zs _ (by omega) h2 hr).mono ?_
  rintro e w1 ⟨rfl, hb1⟩
  have h3' := later hb1 h3
  go_wp2
  go_ret
  exact ⟨rfl, hb1⟩
end Go.Proofs.Ytbppijgceacepaa
