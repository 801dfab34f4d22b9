/- EventBack: there and back. -/
import Derived.Test.YtgjkplkghoeeeaaEl
namespace Go.Proofs.Ytgjkplkghoeeeaa
open Go.RowKit Go.Maps
set_option maxRecDepth 100000
set_option linter.unusedVariables false
set_option linter.unusedSimpArgs false


theorem wpList_app {w w' : World} {ops : Array Oper} {rest : List Oper} {o : Oper} {a : Act} {Q : Exit → Act → World → Prop} {v y v' : Value} (hgd : o.guard = none) (s x : Operand) (ho : o.op = .call { callee := .builtin .append, args := #[s, x], argTypes := #[29, 29] })
    (hs : a.eval s = v) (hx : a.eval x = y) (hr : (Builtin.append_ #[29, 29] o.type #[v, y]).run Try.prog w = .ok v' w') (h : wpList Try.prog ops Q rest (a.put o.dst v') w') : wpList Try.prog ops Q (o :: rest) a w := by
  refine wpList_plain hgd fun K hK => ?_
  unfold Oper.wp execOp
  simp only [ho, resolve, invoke, builtin, Sem.run_bind, Sem.run_pure, Result.andThen_ok, List.map_toArray, List.map_cons, List.map_nil, hs, hx, hr]
  exact hK _ _ h
theorem nowE_snoc (l : List Ev) (x : Ev) : nowE (l ++ [x]) = x.t := by unfold nowE; rw [List.getLast?_concat]
theorem takeN_pos (most : Int) (x : Ev) (l : List Ev) : 1 ≤ takeN most 0 true (x :: l) := by unfold takeN; rw [if_neg (by simp)]; omega
/-- What is taken has at most so many bytes, but for the first one. -/
theorem takeN_fits (most : Int) : ∀ (l : List Ev) (a : Nat) (f : Bool), takeN most a f l = 0 ∨ (f = true ∧ takeN most a f l = 1) ∨ ((a + (catE (l.take (takeN most a f l))).size : Nat) : Int) ≤ most
  | [], a, f => Or.inl rfl
  | x :: l, a, f => by
    by_cases hs : f = false ∧ most < ((a + (encE x).size : Nat) : Int)
    · exact Or.inl (by unfold takeN; rw [if_pos hs])
    · have e : takeN most a f (x :: l) = 1 + takeN most (a + (encE x).size) false l := by
        conv => lhs; unfold takeN
        rw [if_neg hs]
      rw [e, Nat.add_comm 1, List.take_succ_cons, catE_cons, ByteArray.size_append]
      rcases takeN_fits most l (a + (encE x).size) false with h | ⟨h, -⟩ | h
      · rw [h]
        cases f with
        | true => exact Or.inr (Or.inl ⟨rfl, rfl⟩)
        | false =>
          refine Or.inr (Or.inr ?_)
          have hz : (catE (List.take 0 l)).size = 0 := rfl
          have : ¬ most < ((a + (encE x).size : Nat) : Int) := fun h => hs ⟨rfl, h⟩
          omega
      · cases h
      · exact Or.inr (Or.inr (by omega))
/-- A log's bytes from a place on, up to a size: what they are. -/
theorem piece_of {ws : List Ev} {k : Nat} {most : Int} (hk : k < ws.length) (hm : ∀ x ∈ ws, mayE x = true) (hl : ws.length ≤ 40) :
    ∃ P : List Ev, byS ws ((k : Int) + 1) most = catE P ∧ fromV ((k : Int) + 1) + byN ws ((k : Int) + 1) most = (k : Int) + 1 + (P.length : Int) ∧ ws.take k ++ P = ws.take (k + P.length) ∧ 1 ≤ P.length ∧ k + P.length ≤ ws.length ∧ (∀ x ∈ P, mayE x = true) ∧ (catE P).size ≤ 65536 ∧ (P.length = 1 ∨ ((catE P).size : Int) ≤ most) := by
  have hf : fromV ((k : Int) + 1) = (k : Int) + 1 := by unfold fromV; rw [Int.max_def]; split <;> omega
  have hd : (fromV ((k : Int) + 1) - 1).toNat = k := by rw [hf]; omega
  have hN : byN ws ((k : Int) + 1) most = takeN most 0 true (ws.drop k) := by unfold byN; rw [hd]
  have hle := takeN_le most (ws.drop k) 0 true
  have hfit := takeN_fits most (ws.drop k) 0 true
  have hpos : 1 ≤ takeN most 0 true (ws.drop k) := by
    rw [List.drop_eq_getElem_cons hk]
    exact takeN_pos _ _ _
  rw [List.length_drop] at hle
  have hPl : ((ws.drop k).take (takeN most 0 true (ws.drop k))).length = takeN most 0 true (ws.drop k) := by rw [List.length_take, List.length_drop]; omega
  have hmP : ∀ x ∈ (ws.drop k).take (takeN most 0 true (ws.drop k)), mayE x = true := fun x hx => hm x (List.mem_of_mem_drop (List.mem_of_mem_take hx))
  have hbd := catE_bd _ hmP
  refine ⟨(ws.drop k).take (takeN most 0 true (ws.drop k)), ?_, ?_, ?_, ?_, ?_, hmP, ?_, ?_⟩
  · unfold byS; rw [hd, hN]
  · rw [hf, hN, hPl]
  · rw [hPl, List.take_add]
  · rw [hPl]; exact hpos
  · rw [hPl]; omega
  · omega
  · rw [hPl]
    rcases hfit with h | ⟨-, h⟩ | h
    · omega
    · exact Or.inl h
    · exact Or.inr (by omega)
/-- A log and a list of the same events, apart. -/
structure TW (w0 wr : World) (b : Nat) (v wv : Value) (ws : List Ev) : Prop where
  h : LG wr b v ws
  hw : EO wr w0.heap.size wv ws
  low : w0.heap.size ≤ b
  ne : ∀ k, wv.ownBlock = some k → k ≠ b ∧ v.ownBlock ≠ some k
  may : ∀ x ∈ ws, mayE x = true
  bel : Below w0.heap.size w0 wr
theorem TW.later {w0 wr w' : World} {b : Nat} {v wv : Value} {ws : List Ev} (h : TW w0 wr b v wv ws) (hb : Below wr.heap.size wr w') : TW w0 w' b v wv ws :=
  ⟨h.h.later hb, h.hw.later hb, h.low, h.ne, h.may, h.bel.trans (hb.mono h.bel.size)⟩
/-- The log has one more than the list. -/
structure TV (w0 wr : World) (b : Nat) (v wv : Value) (ws : List Ev) (x : Ev) : Prop where
  h : LG wr b v (ws ++ [x])
  hw : EO wr w0.heap.size wv ws
  ne : ∀ k, wv.ownBlock = some k → k ≠ b ∧ v.ownBlock ≠ some k
  bel : Below w0.heap.size w0 wr
theorem TV.later {w0 wr w' : World} {b : Nat} {v wv : Value} {ws : List Ev} {x : Ev} (h : TV w0 wr b v wv ws x) (hb : Below wr.heap.size wr w') : TV w0 w' b v wv ws x :=
  ⟨h.h.later hb, h.hw.later hb, h.ne, h.bel.trans (hb.mono h.bel.size)⟩
theorem TW.add {w0 wr w' : World} {b : Nat} {v wv v' : Value} {ws : List Ev} {x : Ev} (h : TW w0 wr b v wv ws) (hL : LG w' b v' (ws ++ [x])) (ht : Turn (fun j => j = b ∨ v.ownBlock = some j) wr w') (hp : v'.ownBlock = v.ownBlock ∨ ∃ g, v'.ownBlock = some g ∧ wr.heap.size ≤ g) : TV w0 w' b v' wv ws x := by
  have q1 := h.low
  refine ⟨hL, h.hw.turn ht ?_, ?_, h.bel.trans (ht.below h.bel.size ?_)⟩
  · rintro k hk (e | e)
    · exact (h.ne k hk).1 e
    · exact (h.ne k hk).2 e
  · intro k hk
    refine ⟨(h.ne k hk).1, ?_⟩
    rcases hp with e | ⟨g, e, hg⟩
    · rw [e]; exact (h.ne k hk).2
    · rw [e]
      intro e2
      injection e2 with e2
      have := h.hw.lt hk
      omega
  · rintro k hk (e | e)
    · omega
    · have := (h.h.lt e).1; omega
theorem TV.push {w0 wr w1 w' : World} {b : Nat} {v wv v0 wv0 wv' : Value} {ws : List Ev} {x : Ev} (h : TW w0 w1 b v0 wv0 ws) (hm : mayE x = true) (k : TV w0 wr b v wv ws x) (hE : EO w' w0.heap.size wv' (ws ++ [x])) (ht : Turn (fun j => wv.ownBlock = some j) wr w') (hp : wv'.ownBlock = wv.ownBlock ∨ wv'.ownBlock = some wr.heap.size) : TW w0 w' b v wv' (ws ++ [x]) := by
  have q1 := h.low
  have q2 := k.h.at_.1
  refine ⟨k.h.turn ht ?_ ?_, hE, q1, ?_, ?_, k.bel.trans (ht.below k.bel.size ?_)⟩
  · intro e; exact (k.ne b e).1 rfl
  · intro j hj e; exact (k.ne j e).2 hj
  · intro j hj
    rcases hp with e | e
    · exact k.ne j (e ▸ hj)
    · rw [e] at hj
      injection hj with hj
      subst hj
      refine ⟨by omega, fun e2 => ?_⟩
      have := (k.h.lt e2).2
      omega
  · intro y hy
    rcases List.mem_append.1 hy with hy | hy
    · exact h.may y hy
    · rw [List.mem_singleton.1 hy]; exact hm
  · intro j hj e
    have := k.hw.ge j e
    omega
/-- And what came back so far. -/
structure TG (w0 wr : World) (b : Nat) (v wv gv : Value) (ws gs : List Ev) : Prop where
  t : TW w0 wr b v wv ws
  hg : EO wr w0.heap.size gv gs
  ng : ∀ k, gv.ownBlock = some k → k ≠ b ∧ v.ownBlock ≠ some k ∧ wv.ownBlock ≠ some k
theorem TG.later {w0 wr w' : World} {b : Nat} {v wv gv : Value} {ws gs : List Ev} (h : TG w0 wr b v wv gv ws gs) (hb : Below wr.heap.size wr w') : TG w0 w' b v wv gv ws gs := ⟨h.t.later hb, h.hg.later hb, h.ng⟩
theorem TG.push {w0 wr w' : World} {b : Nat} {v wv gv gv' : Value} {ws gs ps : List Ev} (h : TG w0 wr b v wv gv ws gs) (hE : EO w' w0.heap.size gv' (gs ++ ps)) (ht : Turn (fun j => gv.ownBlock = some j) wr w') (hp : gv'.ownBlock = gv.ownBlock ∨ gv'.ownBlock = some wr.heap.size) : TG w0 w' b v wv gv' ws (gs ++ ps) := by
  have q1 := h.t.low
  have q2 := h.t.h.at_.1
  refine ⟨⟨h.t.h.turn ht ?_ ?_, h.t.hw.turn ht ?_, q1, h.t.ne, h.t.may, h.t.bel.trans (ht.below h.t.bel.size ?_)⟩, hE, ?_⟩
  · intro e; exact (h.ng b e).1 rfl
  · intro j hj e; exact (h.ng j e).2.1 hj
  · intro j hj e; exact (h.ng j e).2.2 hj
  · intro j hj e
    have := h.hg.ge j e
    omega
  · intro j hj
    rcases hp with e | e
    · exact h.ng j (e ▸ hj)
    · rw [e] at hj
      injection hj with hj
      subst hj
      refine ⟨by omega, fun e2 => ?_, fun e2 => ?_⟩
      · have := (h.t.h.lt e2).2; omega
      · have := h.t.hw.lt e2; omega
end Go.Proofs.Ytgjkplkghoeeeaa
