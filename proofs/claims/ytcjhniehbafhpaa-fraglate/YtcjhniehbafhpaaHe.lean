/- What is overdue; a range over the map of marks; rows of parts. -/
import Derived.Test.YtcjhniehbafhpaaHa
import Derived.Great.BuildSlice
namespace Go.Proofs.Ytcjhniehbafhpaa
open Go.RowKit Go.Maps
set_option maxRecDepth 100000
set_option linter.unusedVariables false
set_option linter.unusedSimpArgs false

def old (la pa : Int) (x : Pile) : Bool := decide (pa ≤ la - x.at_)
def stG (la pa : Int) (left : Lit → Bool) (x : Pile) : Bool := !old la pa x || left x.m.lit
def goG (la pa : Int) (left : Lit → Bool) (x : Pile) : Bool := old la pa x && !left x.m.lit
section
variable {la pa : Int} {l : List Pile} {left : Lit → Bool}
theorem st_start (h : ∀ x ∈ l, left x.m.lit = true) : l.filter (stG la pa left) = l ∧ l.filter (goG la pa left) = [] := by
  constructor
  · rw [List.filter_eq_self]
    intro x hx
    unfold stG
    rw [h x hx, Bool.or_true]
  · rw [List.filter_eq_nil_iff]
    intro x hx
    unfold goG
    rw [h x hx]
    simp
theorem st_end (h : ∀ k, left k = false) : l.filter (stG la pa left) = l.filter (fun x => !old la pa x) ∧ l.filter (goG la pa left) = l.filter (old la pa) := by
  constructor
  · exact List.filter_congr fun x _ => by unfold stG; rw [h, Bool.or_false]
  · exact List.filter_congr fun x _ => by unfold goG; rw [h]; simp
def cutL (left : Lit → Bool) (m : Mk) : Lit → Bool := fun z => left z && !z.sameKey m.lit
theorem mk_one (hn : (l.map (·.m)).Nodup) {x y : Pile} (hx : x ∈ l) (hy : y ∈ l) (e : x.m = y.m) : x = y := by
  induction l with
  | nil => cases hx
  | cons z r ih =>
    rw [List.map_cons, List.nodup_cons] at hn
    rcases List.mem_cons.1 hx with h1 | h1
    · rcases List.mem_cons.1 hy with h2 | h2
      · rw [h1, h2]
      · exact absurd (List.mem_map.2 ⟨y, h2, by rw [← h1]; exact e.symm⟩) hn.1
    · rcases List.mem_cons.1 hy with h2 | h2
      · exact absurd (List.mem_map.2 ⟨x, h1, by rw [← h2]; exact e⟩) hn.1
      · exact ih hn.2 h1 h2
theorem st_gone (hw : ∀ x ∈ l, x.m.wf) (hn : (l.map (·.m)).Nodup) {y : Pile} (hy : y ∈ l) (ho : old la pa y = true) :
    ((l.filter (stG la pa left)).map fun x => enD x.en).filter (fun p => !p.1.sameKey y.m.lit) = (l.filter (stG la pa (cutL left y.m))).map fun x => enD x.en := by
  rw [List.filter_map, List.filter_filter]
  congr 1
  refine List.filter_congr fun x hx => ?_
  have hk : x.m.lit.sameKey y.m.lit = decide (x.m = y.m) := same_mk (hw x hx) (hw y hy)
  show ((!x.m.lit.sameKey y.m.lit) && stG la pa left x) = _
  unfold stG cutL
  rw [hk]
  by_cases e : x.m = y.m
  · have := mk_one hn hx hy e
    subst this
    simp [ho]
  · simp [e]
theorem st_keep (hw : ∀ x ∈ l, x.m.wf) (hn : (l.map (·.m)).Nodup) {y : Pile} (hy : y ∈ l) (ho : old la pa y = false) :
    l.filter (stG la pa (cutL left y.m)) = l.filter (stG la pa left) ∧ l.filter (goG la pa (cutL left y.m)) = l.filter (goG la pa left) := by
  constructor
  · refine List.filter_congr fun x hx => ?_
    have hk : x.m.lit.sameKey y.m.lit = decide (x.m = y.m) := same_mk (hw x hx) (hw y hy)
    unfold stG cutL
    rw [hk]
    by_cases e : x.m = y.m
    · have := mk_one hn hx hy e
      subst this
      simp [ho]
    · simp [e]
  · refine List.filter_congr fun x hx => ?_
    have hk : x.m.lit.sameKey y.m.lit = decide (x.m = y.m) := same_mk (hw x hx) (hw y hy)
    unfold goG cutL
    rw [hk]
    by_cases e : x.m = y.m
    · have := mk_one hn hx hy e
      subst this
      simp [ho]
    · simp [e]
theorem go_gone (hw : ∀ x ∈ l, x.m.wf) (hn : (l.map (·.m)).Nodup) {y : Pile} (hy : y ∈ l) (ho : old la pa y = true) (hl : left y.m.lit = true) {gs : List Pile} (hg : gs.Perm (l.filter (goG la pa left))) :
    (gs ++ [y]).Perm (l.filter (goG la pa (cutL left y.m))) := by
  obtain ⟨a, b, rfl⟩ := List.append_of_mem hy
  have hs : ∀ x ∈ a ++ b, x.m ≠ y.m := fun x hx e => by
    rw [List.map_append, List.map_cons, List.nodup_append] at hn
    obtain ⟨n1, n2, n3⟩ := hn
    rcases List.mem_append.1 hx with h | h
    · exact n3 _ (List.mem_map_of_mem (f := fun z : Pile => z.m) h) _ (List.mem_cons_self ..) e
    · exact (List.nodup_cons.1 n2).1 (by rw [← e]; exact List.mem_map_of_mem (f := fun z : Pile => z.m) h)
  have hsame : ∀ x ∈ a ++ b, goG la pa (cutL left y.m) x = goG la pa left x := fun x hx => by
    have hk : x.m.lit.sameKey y.m.lit = decide (x.m = y.m) := same_mk (hw x (inAll hx)) (hw y hy)
    unfold goG cutL
    rw [hk, decide_eq_false (hs x hx)]
    simp
  have hy0 : goG la pa left y = false := by unfold goG; rw [hl]; simp
  have hy1 : goG la pa (cutL left y.m) y = true := by
    unfold goG cutL
    rw [ho, hl, same_mk (hw y hy) (hw y hy)]
    simp
  rw [List.filter_append, List.filter_cons_of_neg (by rw [hy0]; simp)] at hg
  rw [List.filter_append, List.filter_cons_of_pos hy1]
  rw [List.filter_congr (fun x hx => hsame x (List.mem_append_left _ hx)), List.filter_congr (l := b) (fun x hx => hsame x (List.mem_append_right _ hx))]
  exact (List.perm_append_singleton y gs).trans ((hg.cons y).trans List.perm_middle.symm)
end
theorem rg_turn {S : Nat → Prop} {w w' : World} {M r n cnt : Nat} {D : DataW Value} {left : Lit → Bool} (h : w.ranges Try.prog 77 hE M r n D left cnt) (ht : Turn S w w') (hM : ¬ S M) (hr : ¬ S r) : w'.ranges Try.prog 77 hE M r n D left cnt := by
  obtain ⟨es, clock, since, seen, c0, hb, F, hs, hD, hr', rest⟩ := h
  exact ⟨es, clock, since, seen, c0, (ht.block M (Array.getElem?_eq_some_iff.1 hb).1 hM).trans hb, F, hs, hD, (ht.block r (Array.getElem?_eq_some_iff.1 hr').1 hr).trans hr', rest⟩
/-- The step of a range over the map. -/
theorem wpList_next_g {w : World} {ops : Array Oper} {rest : List Oper} {o : Oper} {a : Act} {Q : Exit → Act → World → Prop} (hg : o.guard = none) (it : Operand) (hop : o.op = Op.next it false) (M r n : Nat) (L : List Pile) (es : List (Lit × DataW Value)) (hw : ∀ x ∈ L, x.m.wf) (hp : es.Perm (L.map fun x => enD x.en)) (left : Lit → Bool) (cnt : Nat)
    (hit : a.eval it = .pointer (some ⟨r, 0, none⟩)) (h : w.ranges Try.prog 77 hE M r n (.map es) left cnt)
    (hDone : cnt = 0 → (∀ kl, left kl = false) → wpList Try.prog ops Q rest (a.put o.dst (.tuple #[.bool false])) w)
    (hMore : ∀ (y : Pile) (w' : World) (cnt' : Nat), y ∈ L → left y.m.lit = true → w'.ranges Try.prog 77 hE M r n (.map es) (cutL left y.m) cnt' → cnt' < cnt →
      w.grownBy w' (some r) → w'.heap.size = w.heap.size → (Instr.entry (.pointer (some ⟨r, 0, none⟩))).run Try.prog w' = .ok (.tuple #[.agg #[.int .i64 y.m.f, .int .i64 y.m.t, .int .i64 y.m.pr, .int .i64 y.m.id], .agg #[.int .i64 y.at_, .int .i64 y.tu, y.v]]) w' → wpList Try.prog ops Q rest (a.put o.dst (.tuple #[.bool true, .agg #[.int .i64 y.m.f, .int .i64 y.m.t, .int .i64 y.m.pr, .int .i64 y.m.id], .agg #[.int .i64 y.at_, .int .i64 y.tu, y.v]])) w') :
    wpList Try.prog ops Q (o :: rest) a w := by
  refine wpList_plain hg fun K' hK' => ?_
  unfold Oper.wp
  rcases h.next lawM o.type with ⟨h0, hl, hrun⟩ | ⟨key, v, kl, y, w', cnt', hkey, hlk, hv, hat, hrun, hrg, hlt, hgr, hsz, hen⟩
  · simp [execOp, hop, hit, hrun, Result.andThen]
    exact hK' _ _ (hDone h0 hl)
  · unfold hE at hv
    injection hv with hv
    subst hv
    have key' : ∃ x ∈ L, x.m.lit = kl ∧ Value.agg #[.int .i64 x.at_, .int .i64 x.tu, x.v] = v := by
      have h1 := hat (.held (.bool true))
      have h2 := hat (.held (.bool false))
      unfold DataW.atKey at h1 h2
      simp only at h1 h2
      cases hf : es.find? (fun p => p.1.sameKey kl) with
      | none =>
        rw [hf] at h1 h2
        simp only at h1 h2
        rw [← h2] at h1
        cases h1
      | some p =>
        rw [hf] at h1
        simp only at h1
        have hs := List.find?_some hf
        obtain ⟨x, hx, hq⟩ := List.mem_map.1 (hp.mem_iff.1 (List.mem_of_find?_eq_some hf))
        refine ⟨x, hx, ?_, ?_⟩
        · have := WideAt.sameKey_eq hs
          rw [← this, ← hq]
          rfl
        · rw [← hq] at h1
          have h3 : DataW.held (Value.agg #[.int .i64 x.at_, .int .i64 x.tu, x.v]) = .held v := h1
          injection h3
    obtain ⟨x, hx, e1, e2⟩ := key'
    subst e2
    subst e1
    have hk2 : key = x.m.V := lawM.inj hkey (x.m.key (hw x hx))
    subst hk2
    simp [execOp, hop, hit, hrun, Result.andThen]
    exact hK' _ _ (hMore x w' cnt' hx hlk hrg hlt hgr hsz hen)
/-! ### Rows of parts -/
def Pile.L (x : Pile) : List Value := [.int .i64 x.at_, .int .i64 x.tu, x.v]
def flatG (gs : List Pile) : List Value := gs.flatMap Pile.L
def GR (w : World) (R : Nat) (v : Value) (gs : List Pile) : Prop := w.ownsRow R 61 3 v gs.length (flatG gs)
theorem GR.nil (w : World) (R : Nat) : GR w R (.slice none 0 0) [] := World.ownsRow_nil _ _ _ _
theorem GR.ge {w : World} {R : Nat} {v : Value} {gs : List Pile} (h : GR w R v gs) : ∀ j, v.ownBlock = some j → R ≤ j := fun j hj => (World.ownsRow.lt h j hj).1
theorem GR.lt {w : World} {R : Nat} {v : Value} {gs : List Pile} (h : GR w R v gs) : ∀ j, v.ownBlock = some j → j < w.heap.size := fun j hj => (World.ownsRow.lt h j hj).2
theorem GR.turn {S : Nat → Prop} {w w' : World} {R : Nat} {v : Value} {gs : List Pile} (h : GR w R v gs) (ht : Turn S w w') (hS : ∀ k, v.ownBlock = some k → ¬ S k) : GR w' R v gs := by
  obtain ⟨i1, i2⟩ := h
  refine ⟨i1, ?_⟩
  rcases i2 with h | ⟨g, cap, cur, a1, a2, a3, a4⟩
  · exact Or.inl h
  · exact Or.inr ⟨g, cap, cur, a1, a2, (ht.block g (Array.getElem?_eq_some_iff.1 a3).1 (hS g (by rw [a1]; simp [Value.ownBlock]))).trans a3, a4⟩
theorem GR.later {w w' : World} {R : Nat} {v : Value} {gs : List Pile} (h : GR w R v gs) (hb : Below w.heap.size w w') : GR w' R v gs := h.turn (S := fun _ => False) (Turn.of_below hb) (fun _ _ h => h)
theorem GR.shape {w : World} {R : Nat} {v : Value} {gs : List Pile} (h : GR w R v gs) : ∃ a c, v = .slice a gs.length c := by
  rcases h.2 with ⟨rfl, h0⟩ | ⟨g, cap, cur, rfl, -⟩
  · exact ⟨none, 0, by rw [h0]⟩
  · exact ⟨_, _, rfl⟩
theorem infoX3 : (Try.prog.info? 61).map (fun i => (i.zero, i.size, i.bytes)) = some (some (.agg #[.int .i64 0, .int .i64 0, .slice none 0 0]), 3, 40) := by kernel_rfl
theorem bsG (x y : Int) (a : Option Addr) (n c : Nat) (w : World) : (Instr.buildSlice 58 1 #[(0, .agg #[.int .i64 x, .int .i64 y, .slice a n c])]).run Try.prog w = .ok (.slice (some ⟨w.heap.size, 0, none⟩) 1 1) (w.alloc (.cells #[.int .i64 x, .int .i64 y, .slice a n c] 61)) := by
  obtain ⟨i0, hi, hz0, hz1, hz2⟩ := info_parts infoX3
  refine run_buildSlice w 58 61 1 _ _ i0 _ Try.underlying58 hi hz0 (by rw [hz1]; decide) (by rw [hz1]; decide) ?_
  rw [hz1]; kernel_rfl
theorem wpList_bsliceG {w : World} {ops : Array Oper} {rest : List Oper} {op : Oper} {a : Act} {Q : Exit → Act → World → Prop} (hgd : op.guard = none) (i : Operand) (ho : op.op = .buildSlice 58 1 #[(0, i)]) (x y : Int) (sa : Option Addr) (n c : Nat) (hi : a.eval i = .agg #[.int .i64 x, .int .i64 y, .slice sa n c])
    (h : wpList Try.prog ops Q rest (a.put op.dst (.slice (some ⟨w.heap.size, 0, none⟩) 1 1)) (w.alloc (.cells #[.int .i64 x, .int .i64 y, .slice sa n c] 61))) : wpList Try.prog ops Q (op :: rest) a w := by
  refine wpList_plain hgd fun K hK => ?_
  unfold Oper.wp execOp
  have e' : (#[(0, i)].map fun (p : Nat × Operand) => (p.1, a.eval p.2)) = #[(0, .agg #[.int .i64 x, .int .i64 y, .slice sa n c])] := by simp [hi]
  simp only [ho, Sem.run_bind]
  rw [e', bsG]
  exact hK _ _ h
theorem wpList_appendG {w : World} {ops : Array Oper} {rest : List Oper} {o : Oper} {a : Act} {Q : Exit → Act → World → Prop} (hgd : o.guard = none) (s x : Operand)
    (ho : o.op = .call { callee := .builtin .append, args := #[s, x], argTypes := #[58, 58] }) (R : Nat) (v : Value) (gs : List Pile) (q : Pile) (g c : Nat) (hs : a.eval s = v) (hown : GR w R v gs) (hx : a.eval x = .slice (some ⟨g, 0, none⟩) 1 c) (hq : q.v.oneCell' = true) (hr : ∀ j u, q.L[j]? = some u → w.cell? ⟨g, j, none⟩ = some u) (hR : R ≤ w.heap.size) (hlen : gs.length < 1000000)
    (h : ∀ v' w', GR w' R v' (gs ++ [q]) → Turn (fun k => v.ownBlock = some k) w w' → wpList Try.prog ops Q rest (a.put o.dst v') w') : wpList Try.prog ops Q (o :: rest) a w := by
  obtain ⟨i0, hi, hz0, hz1, hz2⟩ := info_parts infoX3
  refine wpList_append_own _ hgd s x 58 ho R 61 i0 _ 3 40 Try.underlying58 hi hz0 hz1 hz2 rfl (by decide) v gs.length (flatG gs) hs hown ⟨g, 0, none⟩ 1 c q.L hx rfl ?_ ?_ (by unfold maxLen; omega) (by omega) hR ?_
  · intro j u hu
    rw [Addr.add_mid, Nat.zero_add]
    exact hr j u hu
  · intro u hu
    simp only [Pile.L, List.mem_cons, List.not_mem_nil, or_false] at hu
    rcases hu with rfl | rfl | rfl
    · rfl
    · rfl
    · exact hq
  · intro v' w' h1 h2 h3
    refine h v' w' ?_ (Turn.of_grown h2 (fun j hj => Or.inl hj))
    unfold GR
    rw [List.length_append, List.length_singleton]
    have : flatG (gs ++ [q]) = flatG gs ++ q.L := by simp [flatG]
    rw [this]
    exact h1
theorem flatG_len (gs : List Pile) : (flatG gs).length = gs.length * 3 := by
  induction gs with
  | nil => rfl
  | cons x r ih =>
    have : flatG (x :: r) = x.L ++ flatG r := rfl
    rw [this, List.length_append, ih, List.length_cons]
    show 3 + _ = _
    omega
theorem flatG_at : ∀ (gs : List Pile) (i j : Nat) (x : Pile), gs[i]? = some x → j < 3 → (flatG gs)[i * 3 + j]? = x.L[j]?
  | [], i, j, x, h, _ => by simp at h
  | y :: r, i, j, x, h, hj => by
    have e : flatG (y :: r) = y.L ++ flatG r := rfl
    rw [e]
    cases i with
    | zero =>
      simp at h
      subst h
      rw [List.getElem?_append_left (by show _ < 3; omega)]
      simp
    | succ i =>
      rw [List.getElem?_append_right (by show 3 ≤ _; omega)]
      have := flatG_at r i j x (by simpa using h) hj
      rw [← this]
      congr 1
      show (i + 1) * 3 + j - 3 = _
      omega
/-- What the sort makes of a pile. -/
def toG (x : Pile) : Gn := match x.v with
  | .slice a n c => ⟨x.at_, Fin.ofNat _ x.tu.toNat, a, n, c⟩
  | _ => default
theorem toG_L {x : Pile} (h0 : 0 ≤ x.tu) (h1 : x.tu < 1099511627776) {a : Option Addr} {n c : Nat} (hv : x.v = .slice a n c) : (toG x).L = x.L ∧ ((toG x).tu.val : Int) = x.tu := by
  have e : ((Fin.ofNat 1099511627776 x.tu.toNat).val : Int) = x.tu := by
    show ((x.tu.toNat % 1099511627776 : Nat) : Int) = x.tu
    omega
  unfold toG
  rw [hv]
  exact ⟨by show [Value.int .i64 x.at_, Value.int .i64 ((Fin.ofNat 1099511627776 x.tu.toNat).val : Int), Value.slice a n c] = _; rw [e]; unfold Pile.L; rw [hv], e⟩
/-- A slice of parts that is read. -/
def GS (w : World) (R : Nat) (v : Value) (gs : List Pile) : Prop := (gs = [] ∧ ∃ p c, v = .slice p 0 c) ∨ ∃ g c, v = .slice (some ⟨g, 0, none⟩) gs.length c ∧ R ≤ g ∧ g < w.heap.size ∧ ∀ i x, gs[i]? = some x → ∀ j u, x.L[j]? = some u → w.cell? ⟨g, i * 3 + j, none⟩ = some u
theorem holds_gr {w : World} {R : Nat} {g c : Nat} {gs : List Pile} (h : GR w R (.slice (some ⟨g, 0, none⟩) gs.length c) gs) (hok : ∀ x ∈ gs, 0 ≤ x.tu ∧ x.tu < 1099511627776 ∧ ∃ a n c, x.v = .slice a n c) : Go.Sort.HoldsK Gn.L 3 w g 0 (gs.map toG).toArray ∧ R ≤ g ∧ g < w.heap.size := by
  rcases h.2 with ⟨h, -⟩ | ⟨g', cap, cur, hv, hR, hb, hnc, hcm, hcs, htk⟩
  · cases h
  injection hv with e1 e2 e3
  injection e1 with e1
  injection e1 with e1
  subst e1
  refine ⟨?_, hR, (Array.getElem?_eq_some_iff.1 hb).1⟩
  intro t ht
  rw [Go.Sort.size_flatK] at ht
  rw [Go.Sort.get_flatK _ _ _ _ ht]
  simp only [List.size_toArray, List.length_map] at ht
  obtain ⟨i, j, hij, hj⟩ : ∃ i j, t = i * 3 + j ∧ j < 3 := ⟨t / 3, t % 3, by omega, by omega⟩
  subst hij
  have d1 : (i * 3 + j) / 3 = i := by omega
  have d2 : (i * 3 + j) % 3 = j := by omega
  rw [d1, d2]
  have hi : i < gs.length := by omega
  obtain ⟨x, hx⟩ : ∃ x, gs[i]? = some x := ⟨gs[i], List.getElem?_eq_getElem hi⟩
  have hget : (gs.map toG).toArray[i]! = toG x := by
    rw [getElem!_pos _ i (by simpa using hi)]
    have : gs[i] = x := by rw [List.getElem?_eq_getElem hi] at hx; injection hx
    simp [this]
  obtain ⟨k0, k1, a, n, c', hv⟩ := hok x (List.mem_of_getElem? hx)
  rw [hget, (toG_L k0 k1 hv).1]
  have hfl := flatG_at gs i j x hx hj
  rw [← htk, List.getElem?_take_of_lt (by omega)] at hfl
  have hl : x.L[j]? = some x.L[j]! := by
    have : j < x.L.length := hj
    rw [List.getElem?_eq_getElem this, getElem!_pos x.L j this]
  constructor
  · simp only [World.cell?, hb, Nat.zero_add]
    rw [hl] at hfl
    simpa using hfl
  · simp only [World.frozen?, hb]
    simp
theorem gs_holds {w : World} {R g c : Nat} {gs : List Pile} {d : Array Gn} (hH : Go.Sort.HoldsK Gn.L 3 w g 0 d) (hd : d.toList = gs.map toG) (hok : ∀ x ∈ gs, 0 ≤ x.tu ∧ x.tu < 1099511627776 ∧ ∃ a n c, x.v = .slice a n c) (hR : R ≤ g) (hg : g < w.heap.size) : GS w R (.slice (some ⟨g, 0, none⟩) gs.length c) gs := by
  refine Or.inr ⟨g, c, rfl, hR, hg, fun i x hx j u hu => ?_⟩
  have hj : j < 3 := (List.getElem?_eq_some_iff.1 hu).1
  have hi : i < gs.length := (List.getElem?_eq_some_iff.1 hx).1
  have hds : d.size = gs.length := by rw [← Array.length_toList, hd, List.length_map]
  obtain ⟨k0, k1, a, n, c', hv⟩ := hok x (List.mem_of_getElem? hx)
  have hdi : d[i]! = toG x := by
    rw [getElem!_pos d i (by omega)]
    have : d.toList[i]? = some (toG x) := by rw [hd, List.getElem?_map, hx]; rfl
    rw [Array.getElem?_toList, Array.getElem?_eq_getElem (by omega)] at this
    injection this
  have hc := (Go.Sort.HoldsK.cell hH (i := i) (c := j) (by omega) hj).1
  rw [hdi, (toG_L k0 k1 hv).1, Nat.zero_add] at hc
  have hlj : j < x.L.length := hj
  rw [List.getElem?_eq_getElem hlj] at hu
  injection hu with hu
  rw [getElem!_pos x.L j hlj, hu] at hc
  exact hc
end Go.Proofs.Ytcjhniehbafhpaa
