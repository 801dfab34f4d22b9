/- Towards EtherFor: appends in a region that draws its order; the swap. -/
import Derived.Test.YtbppijgceacepaaLends
import Derived.Test.YtbppijgceacepaaDecodes
import Derived.Deep.RegionHeld3
import Derived.Deep.RegionLawGrows
import Derived.Deep.AppendLies
import Derived.Deep.Onto
import Derived.OwnWalk
import Derived.BigRegion
namespace Go.Proofs.Ytbppijgceacepaa
open Go.RowKit

theorem amongW_any (n m : Int) (w : World) (m0 : 0 < m) (m1 : m ≤ 4611686018427387903) :
    Calls Try.prog 20 #[.int .i64 n, .int .i64 m] w fun e w' => e = .returned (.int .i64 (n % m)) ∧ w' = w := by
  obtain ⟨h, h1, h2⟩ := tmod_round n m m0
  rw [← h]; clear h
  go_enter Try.func20, Try.ntmps20
  go_wp2
  go_ret
  exact ⟨rfl, rfl⟩

theorem step_append_own {P : Program} {w : World} {ops : Array Oper} {o : Oper} {a : Act} {K : Act → World → Prop} {Q : Exit → Act → World → Prop} {E : Prop} (hgd : o.guard = none) (s x : Operand) (t : TypeId)
    (ho : o.op = .call { callee := .builtin .append, args := #[s, x], argTypes := #[t, t] })
    (base : Nat) (e : TypeId) (i : TypeInfo) (z : Value) (size bytes : Nat) (ht : P.underlying t = some (.slice e)) (hi : P.info? e = some i) (hz : i.zero = some z)
    (hsize : i.size = size) (hby : i.bytes = bytes) (hzs : z.cells.size = size) (hsz : 0 < size)
    (v : Value) (n : Nat) (xs : List Value) (hs : a.eval s = v) (hown : w.ownsRow base e size v n xs)
    (ad : Addr) (m c : Nat) (news : List Value) (hx : a.eval x = .slice (some ad) m c) (hl : news.length = m * size) (hnews : ∀ j u, news[j]? = some u → w.cell? (ad.add j) = some u) (h1 : ∀ u ∈ news, u.oneCell' = true)
    (h63 : n + m ≤ maxLen) (hbytes : (n + m) * bytes ≤ 140737488355328) (hbase : base ≤ w.heap.size)
    (h : ∀ v' w', w'.ownsRow base e size v' (n + m) (xs ++ news) → w.grownBy w' v.ownBlock → (v' = .slice none 0 0 ↔ v = .slice none 0 0 ∧ m = 0) → K (a.put o.dst v') w') :
    if Region.wanted o (yielded ops a.tmps) = true then Oper.wp P o a w K Q else E := by
  have hw : Region.wanted o (yielded ops a.tmps) = true := by simp [Region.wanted, hgd]
  rw [if_pos hw]
  exact wp_append_own w s x t ho base e i z size bytes ht hi hz hsize hby hzs hsz v n xs hs hown ad m c news hx hl hnews h1 h63 hbytes hbase h

/-- Nothing is appended to a row without room: the row is as it was. -/
theorem step_append_zero {P : Program} {w : World} {ops : Array Oper} {o : Oper} {a : Act} {K : Act → World → Prop} {Q : Exit → Act → World → Prop} {E : Prop} (hgd : o.guard = none) (s x : Operand) (t : TypeId)
    (ho : o.op = .call { callee := .builtin .append, args := #[s, x], argTypes := #[t, t] })
    (e : TypeId) (i : TypeInfo) (ht : P.underlying t = some (.slice e)) (hi : P.info? e = some i) (hsize : i.size = 1)
    (b : Nat) (hs : a.eval s = .slice (some ⟨b, 0, none⟩) 0 0) (ao : Option Addr) (c : Nat) (hx : a.eval x = .slice ao 0 c) (hn : ao = none → c = 0)
    (hK : K (a.put o.dst (.slice (some ⟨b, 0, none⟩) 0 0)) w) :
    if Region.wanted o (yielded ops a.tmps) = true then Oper.wp P o a w K Q else E := by
  cases ao with
  | some ad =>
    refine step_append_room hgd s x t ho e i 1 ht hi hsize b 0 0 0 hs ad 0 c [] hx rfl (by simp) (by simp) (by omega) (by simp) ?_
    simpa [World.setCells] using hK
  | none =>
    have hc := hn rfl
    subst hc
    have hw : Region.wanted o (yielded ops a.tmps) = true := by simp [Region.wanted, hgd]
    rw [if_pos hw]
    have hrun : (Builtin.append_ #[t, t] o.type #[.slice (some ⟨b, 0, none⟩) 0 0, .slice none 0 0]).run P w = .ok (.slice (some ⟨b, 0, none⟩) 0 0) w := by
      simp [Builtin.append_, run_underlying ht, sizeOf, typeInfo, hi, Builtin.lenOf, Builtin.firstCells, storeCells]
    unfold Oper.wp
    simp [execOp, ho, resolve, invoke, builtin, hs, hx, hrun, Result.andThen]
    exact hK

/-- What is held along the region: what was there at its start, and the frame's first cell. -/
theorem held_alloc {u X : World} {p : Addr} {v : Value} (h : Below u.heap.size u X ∧ X.cell? p = some v) (o : Obj) : Below u.heap.size u (X.alloc o) ∧ (X.alloc o).cell? p = some v :=
  ⟨bt h.1 (bel1 X o), later (bel1 X o) h.2⟩
theorem held_alloc_drew {u X : World} {p : Addr} {v : Value} (h : Below u.heap.size u X.drew ∧ X.drew.cell? p = some v) (o : Obj) : Below u.heap.size u (X.alloc o).drew ∧ (X.alloc o).drew.cell? p = some v := by
  have hx : Below u.heap.size u X := ⟨h.1.os, h.1.tape, h.1.output, h.1.size, h.1.block⟩
  have h2 : X.cell? p = some v := h.2
  have h3 := later (bel1 X o) h2
  exact ⟨(bt hx (bel1 X o)).drew, h3⟩
theorem held_grown {u X x : World} {p : Addr} {v : Value} {row : Option Nat} (h : Below u.heap.size u X ∧ X.cell? p = some v) (hp : p.block < u.heap.size) (hg : X.grownBy x row) (hr : ∀ k, row = some k → u.heap.size ≤ k) : Below u.heap.size u x ∧ x.cell? p = some v := by
  have hb := h.1.grown hg h.1.size hr
  exact ⟨hb, (hb.cell hp).trans ((h.1.cell hp).symm.trans h.2)⟩
theorem news_held {u X : World} {p : Addr} {v : Value} {x : Addr} {zs : List Int} (h : Below u.heap.size u X ∧ X.cell? p = some v) (hr : Row u (some x) zs) : ∀ j y, (zs.map (Value.int .i64))[j]? = some y → X.cell? (x.add j) = some y := by
  intro j y hy
  have hj : j < zs.length := by
    have := (List.getElem?_eq_some_iff.1 hy).1
    simpa using this
  rcases hr with rfl | ⟨b, off, hx, hc⟩
  · simp at hj
  · cases hx
    rw [ints_at zs j hj] at hy
    rw [← Option.some.inj hy, Addr.add_lit]
    exact later h.1 (hc j hj)
theorem one_news {X : World} {x : Addr} {t : Int} (h : X.cell? x = some (.int .i64 t)) : ∀ j y, [Value.int .i64 t][j]? = some y → X.cell? (x.add j) = some y := by
  intro j y hy
  have hj : j = 0 := by have := (List.getElem?_eq_some_iff.1 hy).1; simpa using this
  subst hj
  have hy' : y = .int .i64 t := by simpa using hy.symm
  subst hy'
  exact h
theorem own_form {base n : Nat} {w : World} {v : Value} {xs : List Value} (h : w.ownsRow base 3 1 v n xs) (hn : 0 < n) :
    ∃ g cap, v = .slice (some ⟨g, 0, none⟩) n cap ∧ base ≤ g ∧ n ≤ cap ∧ cap ≤ maxLen := by
  rcases h.2 with ⟨_, h0⟩ | ⟨g, cap, cur, hv, hg, _, hc, hm, _⟩
  · omega
  · exact ⟨g, cap, hv, hg, hc, hm⟩
theorem own_low {u X x : World} {p : Addr} {q v : Value} {n : Nat} {xs : List Value} (h : Below u.heap.size u X ∧ X.cell? p = some q) (ho : x.ownsRow X.heap.size 3 1 v (0 + n) ([] ++ xs)) (hn : 0 < n) :
    ∃ g cap, v = .slice (some ⟨g, 0, none⟩) n cap ∧ u.heap.size ≤ g ∧ x.ownsRow u.heap.size 3 1 (.slice (some ⟨g, 0, none⟩) n cap) n xs := by
  rw [Nat.zero_add, List.nil_append] at ho
  have ho' := ho.mono h.1.size
  obtain ⟨g, cap, rfl, hg, _, _⟩ := own_form ho' hn
  exact ⟨g, cap, rfl, hg, ho'⟩
theorem held_size {u X : World} {p : Addr} {q : Value} (h : Below u.heap.size u X ∧ X.cell? p = some q) : u.heap.size ≤ X.heap.size := h.1.size
/-- The numbers of the list with t behind them, the one at j and the last one changed for one another. -/
def swapL (zs : List Int) (t : Int) (j : Nat) : List Int := ((zs ++ [t]).set j t).set zs.length ((zs ++ [t]).getD j 0)
theorem swapL_len (zs : List Int) (t : Int) (j : Nat) : (swapL zs t j).length = zs.length + 1 := by simp [swapL]
theorem swapL_has (zs : List Int) (t : Int) (j : Nat) (h : j ≤ zs.length) : hasB t (swapL zs t j) = true := by
  apply hasB_in t (swapL zs t j) j (by rw [swapL_len]; omega)
  unfold swapL
  by_cases e : zs.length = j
  · subst e
    simp [List.getD]
  · have hlt : j < zs.length + 1 := by omega
    simp [List.getD, e, hlt]
theorem own_at {w : World} {base g cap : Nat} {zs : List Int} {t : Int} (h : w.ownsRow base 3 1 (.slice (some ⟨g, 0, none⟩) (zs.length + 1) cap) (zs.length + 1) (zs.map (Value.int .i64) ++ [.int .i64 t])) (j : Nat) (hj : j ≤ zs.length) :
    ∃ y, w.cell? ⟨g, j, none⟩ = some (.int .i64 y) ∧ Hid (y = (zs ++ [t]).getD j 0) := by
  refine ⟨(zs ++ [t]).getD j 0, ?_, rfl⟩
  have := h.cellAt j (by omega)
  rw [this, show zs.map (Value.int .i64) ++ [.int .i64 t] = (zs ++ [t]).map (Value.int .i64) by simp]
  exact ints_at _ j (by simp; omega)
theorem own_last {w : World} {base g cap : Nat} {zs : List Int} {t : Int} (h : w.ownsRow base 3 1 (.slice (some ⟨g, 0, none⟩) (zs.length + 1) cap) (zs.length + 1) (zs.map (Value.int .i64) ++ [.int .i64 t])) :
    w.cell? ⟨g, zs.length, none⟩ = some (.int .i64 t) := by
  have := h.cellAt zs.length (by omega)
  rw [this, List.getElem?_append_right (by simp)]
  simp
theorem swap_row {w : World} {base g cap : Nat} {zs : List Int} {t y : Int} {j : Nat} (h : w.ownsRow base 3 1 (.slice (some ⟨g, 0, none⟩) (zs.length + 1) cap) (zs.length + 1) (zs.map (Value.int .i64) ++ [.int .i64 t])) (hy : Hid (y = (zs ++ [t]).getD j 0)) :
    Row ((w.setCell ⟨g, j, none⟩ (.int .i64 t)).setCell ⟨g, zs.length, none⟩ (.int .i64 y)) (some ⟨g, 0, none⟩) (swapL zs t j) := by
  have h1 := (h.stored j (.int .i64 t)).1
  have h2 := (h1.stored zs.length (.int .i64 y)).1
  refine Or.inr ⟨g, 0, rfl, fun i hi => ?_⟩
  rw [swapL_len] at hi
  have := h2.cellAt i (by omega)
  rw [Nat.zero_add, this, hy.out]
  have e : (((zs.map (Value.int .i64) ++ [Value.int .i64 t]).set j (Value.int .i64 t)).set zs.length (Value.int .i64 ((zs ++ [t]).getD j 0))) = (swapL zs t j).map (Value.int .i64) := by
    unfold swapL
    rw [List.map_set, List.map_set, List.map_append]
    rfl
  rw [e]
  exact ints_at _ i (by rw [swapL_len]; omega)
end Go.Proofs.Ytbppijgceacepaa
