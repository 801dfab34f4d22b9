/- Rows of events; many events out of bytes, on both sides; the same events? -/
import Derived.Test.YtgjkplkghoeeeaaEc
import Derived.Maps.Ext
namespace Go.Proofs.Ytgjkplkghoeeeaa
open Go.RowKit Go.Maps
set_option maxRecDepth 100000
set_option linter.unusedVariables false
set_option linter.unusedSimpArgs false


def evC (x : Ev) : List Value := [.int .i64 x.k, .int .i64 x.t, .string x.d]
/-- A slice of events of its own memory, from base on. -/
def EO (w : World) (base : Nat) (v : Value) (l : List Ev) : Prop := w.ownsRow base 23 3 v l.length (l.flatMap evC)
theorem EO.nil (w : World) (base : Nat) : EO w base (.slice none 0 0) [] := World.ownsRow_nil _ _ _ _
theorem infoE : (Try.prog.info? 23).map (fun i => (i.zero, i.size, i.bytes)) = some (some (.agg #[.int .i64 0, .int .i64 0, .string ⟨#[]⟩]), 3, 32) := by kernel_rfl
theorem EO.later {w w' : World} {base : Nat} {v : Value} {l : List Ev} (h : EO w base v l) (hb : Below w.heap.size w w') : EO w' base v l := row_later h hb
theorem EO.low {w : World} {base b' : Nat} {v : Value} {l : List Ev} (h : EO w base v l) (hb : b' ≤ base) : EO w b' v l := ⟨h.1, h.2.imp id (fun ⟨g, cap, cur, hv, hg, r⟩ => ⟨g, cap, cur, hv, Nat.le_trans hb hg, r⟩)⟩
theorem EO.shape {w : World} {base : Nat} {v : Value} {l : List Ev} (h : EO w base v l) : ∃ a c, v = .slice a l.length c := by
  rcases h.2 with ⟨rfl, h0⟩ | ⟨g, cap, cur, rfl, -⟩
  · rw [h0]; exact ⟨_, _, rfl⟩
  · exact ⟨_, _, rfl⟩
theorem EO.ge {w : World} {base : Nat} {v : Value} {l : List Ev} (h : EO w base v l) : ∀ j, v.ownBlock = some j → base ≤ j := by
  intro j hj
  rcases h.2 with ⟨rfl, -⟩ | ⟨g, cap, cur, rfl, hg, -⟩
  · simp [Value.ownBlock] at hj
  · simp [Value.ownBlock] at hj; omega
theorem EO.turn {S : Nat → Prop} {w w' : World} {base : Nat} {v : Value} {l : List Ev} (h : EO w base v l) (ht : Turn S w w') (hS : ∀ k, v.ownBlock = some k → ¬ S k) : EO w' base v l := by
  obtain ⟨i1, i2⟩ := h
  refine ⟨i1, ?_⟩
  rcases i2 with h | ⟨g, cap, cur, a1, a2, a3, a4⟩
  · exact Or.inl h
  · exact Or.inr ⟨g, cap, cur, a1, a2, (ht.block g (Array.getElem?_eq_some_iff.1 a3).1 (hS g (by rw [a1]; simp [Value.ownBlock]))).trans a3, a4⟩
theorem flat_len (l : List Ev) : (l.flatMap evC).length = l.length * 3 := by
  induction l with
  | nil => rfl
  | cons y r ih => simp [List.flatMap_cons, evC, ih]; omega
theorem flat_at : ∀ (l : List Ev) (i : Nat) (e : Ev), l[i]? = some e → (l.flatMap evC)[i * 3]? = some (.int .i64 e.k) ∧ (l.flatMap evC)[i * 3 + 1]? = some (.int .i64 e.t) ∧ (l.flatMap evC)[i * 3 + 2]? = some (.string e.d)
  | [], i, e, h => by simp at h
  | y :: r, 0, e, h => by
    obtain rfl : y = e := by simpa using h
    simp [List.flatMap_cons, evC]
  | y :: r, i + 1, e, h => by
    have := flat_at r i e (by simpa using h)
    rw [show (i + 1) * 3 = i * 3 + 3 by omega]
    simpa [List.flatMap_cons, evC] using this
/-- The cells of an element. -/
theorem EO.cells {w : World} {base : Nat} {v : Value} {l : List Ev} (h : EO w base v l) {i : Nat} {e : Ev} (he : l[i]? = some e) :
    ∃ g cap, v = .slice (some ⟨g, 0, none⟩) l.length cap ∧ base ≤ g ∧ w.rangeAt g (i * 3) (evC e) := by
  have hi : i < l.length := (List.getElem?_eq_some_iff.1 he).1
  rcases h.2 with ⟨rfl, h0⟩ | ⟨g, cap, cur, rfl, hg, hb, h1, h2, h3, h4⟩
  · omega
  · refine ⟨g, cap, rfl, hg, ?_⟩
    obtain ⟨e0, e1, e2⟩ := flat_at l i e he
    have hc : ∀ j u, (l.flatMap evC)[j]? = some u → w.cell? ⟨g, j, none⟩ = some u := by
      intro j u hu
      rw [← h4] at hu
      have hj : j < l.length * 3 := by
        have := (List.getElem?_eq_some_iff.1 hu).1
        rw [List.length_take] at this
        omega
      rw [List.getElem?_take_of_lt hj] at hu
      simp [World.cell?, hb]
      simpa using hu
    intro j u hu
    match j, hu with
    | 0, hu => obtain rfl : (.int .i64 e.k : Value) = u := by simpa [evC] using hu
               exact hc _ _ e0
    | 1, hu => obtain rfl : (.int .i64 e.t : Value) = u := by simpa [evC] using hu
               exact hc _ _ e1
    | 2, hu => obtain rfl : (.string e.d : Value) = u := by simpa [evC] using hu
               exact hc _ _ e2
    | j + 3, hu => simp [evC] at hu
/-- append of one. -/
theorem wpList_append3 {w : World} {ops : Array Oper} {rest : List Oper} {o : Oper} {a : Act} {Q : Exit → Act → World → Prop} (hgd : o.guard = none) (s x : Operand)
    (ho : o.op = .call { callee := .builtin .append, args := #[s, x], argTypes := #[29, 29] }) (base : Nat) (v : Value) (l : List Ev) (e : Ev) (hs : a.eval s = v) (hown : EO w base v l) (hx : a.eval x = .slice (some ⟨w.heap.size, 0, none⟩) 1 1) (hbase : base ≤ w.heap.size) (hlen : l.length < 1000000)
    (h : ∀ v' w', EO w' base v' (l ++ [e]) → Below base w w' → Turn (fun k => v.ownBlock = some k) w w' → wpList Try.prog ops Q rest (a.put o.dst v') w') : wpList Try.prog ops Q (o :: rest) a (w.alloc (.cells #[.int .i64 e.k, .int .i64 e.t, .string e.d] 23)) := by
  obtain ⟨i0, hi, hz0, hz1, hz2⟩ := info_parts infoE
  refine wpList_append_own _ hgd s x 29 ho base 23 i0 (.agg #[.int .i64 0, .int .i64 0, .string ⟨#[]⟩]) 3 32 Try.underlying29 hi hz0 hz1 hz2 rfl (by decide) v l.length (l.flatMap evC) hs (World.ownsRow.alloc hown _) ⟨w.heap.size, 0, none⟩ 1 1 (evC e) hx rfl ?_ (by simp [evC, Value.oneCell']) (by unfold maxLen; omega) (by omega) (Nat.le_trans hbase (bel1 w _).size) ?_
  · intro j u hu
    rw [Addr.add_lit, Nat.zero_add]
    exact ((At.box w #[.int .i64 e.k, .int .i64 e.t, .string e.d] 23).2 j u (by simpa [evC] using hu)).1
  · intro v' w' h1 h2 h3
    have hT : Turn (fun k => v.ownBlock = some k) w w' := (Turn.of_below (bel1 w _)).and h2 (fun j hj => Or.inl hj)
    refine h v' w' ?_ (hT.below hbase (fun k hk he => by have := hown.ge k he; omega)) hT
    unfold EO
    simpa using h1

theorem rel_int {a b : Int} (h : a = b) : Value.int .i64 a = .int .i64 b := by rw [h]
/-! ### The same events? -/
set_option maxHeartbeats 1000000 in
theorem same_any {b1 b2 : Nat} {v1 v2 : Value} (l : List Ev) (w : World) (h1 : EO w b1 v1 l) (h2 : EO w b2 v2 l) (hl : l.length ≤ 1000000) :
    Calls Try.prog 14 #[v1, v2] w fun e w' => e = .returned (.bool true) ∧ Below w.heap.size w w' := by
  obtain ⟨a1, n1, rfl⟩ := h1.shape
  obtain ⟨a2, n2, rfl⟩ := h2.shape
  go_enter Try.func14, Try.ntmps14
  go_wp2
  go_loopw [5] (fun c wr => ∃ k : Nat, k ≤ l.length ∧ c = .int .i64 (k : Int) ∧ Below w.heap.size w wr) (fun c _ => l.length - (intOf c).toNat)
  case atStart => exact ⟨0, Nat.zero_le _, rfl, Below.refl _ _⟩
  case round =>
    obtain ⟨k, hk, rfl, hb⟩ := hrel
    by_cases hlt : k < l.length
    · obtain ⟨e, he⟩ : ∃ e, l[k]? = some e := ⟨_, List.getElem?_eq_getElem hlt⟩
      obtain ⟨g1, p1, hv1, -, r1⟩ := h1.cells he
      obtain ⟨g2, p2, hv2, -, r2⟩ := h2.cells he
      cases hv1
      cases hv2
      obtain ⟨K, T, D⟩ := e
      have c0 : wr.cell? ⟨g1, k * 3, none⟩ = some (.int .i64 K) := later hb (r1 0 _ rfl)
      have c1 : wr.cell? ⟨g1, k * 3 + 1, none⟩ = some (.int .i64 T) := later hb (r1 1 _ rfl)
      have c2 : wr.cell? ⟨g1, k * 3 + 2, none⟩ = some (.string D) := later hb (r1 2 _ rfl)
      have d0 : wr.cell? ⟨g2, k * 3, none⟩ = some (.int .i64 K) := later hb (r2 0 _ rfl)
      have d1 : wr.cell? ⟨g2, k * 3 + 1, none⟩ = some (.int .i64 T) := later hb (r2 1 _ rfl)
      have d2 : wr.cell? ⟨g2, k * 3 + 2, none⟩ = some (.string D) := later hb (r2 2 _ rfl)
      have hkl : (k : Int) < (l.length : Int) := by omega
      have hdw : Below w.heap.size w wr.drew := hb.drew
      go_wp2
      refine wp_region_held_drew (S := (fun W => Below w.heap.size w W ∧ (W.cell? ⟨g1, k * 3, none⟩ = some (.int .i64 K) ∧ W.cell? ⟨g1, k * 3 + 1, none⟩ = some (.int .i64 T) ∧ W.cell? ⟨g1, k * 3 + 2, none⟩ = some (.string D)) ∧ W.cell? ⟨g2, k * 3, none⟩ = some (.int .i64 K) ∧ W.cell? ⟨g2, k * 3 + 1, none⟩ = some (.int .i64 T) ∧ W.cell? ⟨g2, k * 3 + 2, none⟩ = some (.string D))) (by kernel_rfl) ?_ (fun hHeld => ?_)
      · first | exact ⟨hdw, ⟨c0, c1, c2⟩, d0, d1, d2⟩ | assumption
      refine wpAnyH_take (i := 0) (oi := ({ dst := some 17, op := Go.Op.move (Go.Operand.tmp 0), type := 29, pos := "law.go:30", after := #[], guard := none } : Go.Oper)) (v := .slice (some ⟨g1, 0, none⟩) l.length n1) rfl (by kernel_rfl) (by kernel_rfl) (by kernel_rfl) (fun _ _ _ h => h) (Or.inl ⟨by rfl, ?_⟩) (by assumption) ?_
      · intro wx hSw
        try dsimp only at hSw
        obtain ⟨-, ⟨u0, u1, u2⟩, u3, u4, u5⟩ := hSw
        go_simp
        try with_reducible rfl
      try simp only [Act.put, List.setIfInBounds_toArray, List.set_cons_zero, List.set_cons_succ]
      refine wpAnyH_take (i := 1) (oi := ({ dst := some 18, op := Go.Op.move (Go.Operand.tmp 5), type := 3, pos := "law.go:30", after := #[], guard := none } : Go.Oper)) (v := .int .i64 (k : Int)) rfl (by kernel_rfl) (by kernel_rfl) (by kernel_rfl) (fun _ _ _ h => h) (Or.inl ⟨by rfl, ?_⟩) (by assumption) ?_
      · intro wx hSw
        try dsimp only at hSw
        obtain ⟨-, ⟨u0, u1, u2⟩, u3, u4, u5⟩ := hSw
        go_simp
        try with_reducible rfl
      try simp only [Act.put, List.setIfInBounds_toArray, List.set_cons_zero, List.set_cons_succ]
      refine wpAnyH_take (i := 2) (oi := ({ dst := some 19, op := Go.Op.indexAddr 29 (Go.Operand.tmp 17) (Go.Operand.tmp 18), type := 0, pos := "law.go:30", after := #[{ on := 0, ground := Go.Ground.data }, { on := 1, ground := Go.Ground.data }], guard := none } : Go.Oper)) (v := .pointer (some ⟨g1, k * 3, none⟩)) rfl (by kernel_rfl) (by kernel_rfl) (by kernel_rfl) (fun _ _ _ h => h) (Or.inl ⟨by rfl, ?_⟩) (by assumption) ?_
      · intro wx hSw
        try dsimp only at hSw
        obtain ⟨-, ⟨u0, u1, u2⟩, u3, u4, u5⟩ := hSw
        go_simp
        try with_reducible rfl
      try simp only [Act.put, List.setIfInBounds_toArray, List.set_cons_zero, List.set_cons_succ]
      refine wpAnyH_take (i := 3) (oi := ({ dst := some 20, op := Go.Op.load 23 (Go.Operand.tmp 19), type := 23, pos := "law.go:30", after := #[{ on := 2, ground := Go.Ground.data }], guard := none } : Go.Oper)) (v := .agg #[.int .i64 K, .int .i64 T, .string D]) rfl (by kernel_rfl) (by kernel_rfl) (by kernel_rfl) (fun _ _ _ h => h) (Or.inl ⟨by rfl, ?_⟩) (by assumption) ?_
      · intro wx hSw
        try dsimp only at hSw
        obtain ⟨-, ⟨u0, u1, u2⟩, u3, u4, u5⟩ := hSw
        go_simp
        try with_reducible rfl
      try simp only [Act.put, List.setIfInBounds_toArray, List.set_cons_zero, List.set_cons_succ]
      refine wpAnyH_take (i := 4) (oi := ({ dst := some 21, op := Go.Op.move (Go.Operand.tmp 1), type := 29, pos := "law.go:30", after := #[], guard := none } : Go.Oper)) (v := .slice (some ⟨g2, 0, none⟩) l.length n2) rfl (by kernel_rfl) (by kernel_rfl) (by kernel_rfl) (fun _ _ _ h => h) (Or.inl ⟨by rfl, ?_⟩) (by assumption) ?_
      · intro wx hSw
        try dsimp only at hSw
        obtain ⟨-, ⟨u0, u1, u2⟩, u3, u4, u5⟩ := hSw
        go_simp
        try with_reducible rfl
      try simp only [Act.put, List.setIfInBounds_toArray, List.set_cons_zero, List.set_cons_succ]
      refine wpAnyH_take (i := 5) (oi := ({ dst := some 22, op := Go.Op.move (Go.Operand.tmp 5), type := 3, pos := "law.go:30", after := #[], guard := none } : Go.Oper)) (v := .int .i64 (k : Int)) rfl (by kernel_rfl) (by kernel_rfl) (by kernel_rfl) (fun _ _ _ h => h) (Or.inl ⟨by rfl, ?_⟩) (by assumption) ?_
      · intro wx hSw
        try dsimp only at hSw
        obtain ⟨-, ⟨u0, u1, u2⟩, u3, u4, u5⟩ := hSw
        go_simp
        try with_reducible rfl
      try simp only [Act.put, List.setIfInBounds_toArray, List.set_cons_zero, List.set_cons_succ]
      refine wpAnyH_take (i := 6) (oi := ({ dst := some 23, op := Go.Op.indexAddr 29 (Go.Operand.tmp 21) (Go.Operand.tmp 22), type := 0, pos := "law.go:30", after := #[{ on := 4, ground := Go.Ground.data }, { on := 5, ground := Go.Ground.data }], guard := none } : Go.Oper)) (v := .pointer (some ⟨g2, k * 3, none⟩)) rfl (by kernel_rfl) (by kernel_rfl) (by kernel_rfl) (fun _ _ _ h => h) (Or.inl ⟨by rfl, ?_⟩) (by assumption) ?_
      · intro wx hSw
        try dsimp only at hSw
        obtain ⟨-, ⟨u0, u1, u2⟩, u3, u4, u5⟩ := hSw
        go_simp
        try with_reducible rfl
      try simp only [Act.put, List.setIfInBounds_toArray, List.set_cons_zero, List.set_cons_succ]
      refine wpAnyH_take (i := 7) (oi := ({ dst := some 24, op := Go.Op.load 23 (Go.Operand.tmp 23), type := 23, pos := "law.go:30", after := #[{ on := 6, ground := Go.Ground.data }], guard := none } : Go.Oper)) (v := .agg #[.int .i64 K, .int .i64 T, .string D]) rfl (by kernel_rfl) (by kernel_rfl) (by kernel_rfl) (fun _ _ _ h => h) (Or.inl ⟨by rfl, ?_⟩) (by assumption) ?_
      · intro wx hSw
        try dsimp only at hSw
        obtain ⟨-, ⟨u0, u1, u2⟩, u3, u4, u5⟩ := hSw
        go_simp
        try with_reducible rfl
      try simp only [Act.put, List.setIfInBounds_toArray, List.set_cons_zero, List.set_cons_succ]
      refine wpAnyH_take (i := 8) (oi := ({ dst := some 25, op := Go.Op.binOp Go.BinOp.neq 23 (Go.Operand.tmp 20) (Go.Operand.tmp 24) 23, type := 4, pos := "law.go:30", after := #[{ on := 3, ground := Go.Ground.data }, { on := 7, ground := Go.Ground.data }], guard := none } : Go.Oper)) (v := .bool false) rfl (by kernel_rfl) (by kernel_rfl) (by kernel_rfl) (fun _ _ _ h => h) (Or.inl ⟨by rfl, ?_⟩) (by assumption) ?_
      · intro wx hSw
        try dsimp only at hSw
        obtain ⟨-, ⟨u0, u1, u2⟩, u3, u4, u5⟩ := hSw
        go_simp
        try with_reducible rfl
      try simp only [Act.put, List.setIfInBounds_toArray, List.set_cons_zero, List.set_cons_succ]
      refine wpAnyH_done (by kernel_rfl) ?_ _
      go_wp2
      go_roundw
      case rel => exact ⟨k + 1, by omega, rel_int (by omega), hHeld.1⟩
      case measure => simp [intOf]; omega
    · have hkl : k = l.length := by omega
      subst hkl
      go_wp2
      go_ret
      exact ⟨rfl, hb⟩

def szV : Value → Nat
  | .string s => s.size
  | _ => 0

set_option maxHeartbeats 2000000 in
theorem parts_any (s : ByteArray) (w : World) (hs : s.size ≤ maxLen) :
    Calls Try.prog 10 #[.string s] w fun e w' => ∃ v, e = .returned (.tuple #[v, .int .i64 (codeP s)]) ∧ EO w' w.heap.size v (listP s) ∧ Below w.heap.size w w' := by
  have hm := hs
  unfold maxLen at hs
  by_cases hz : s.size ≤ 65536
  · have t1 : decide ((65536 : Int) < (s.size : Int)) = false := decide_eq_false (by omega)
    go_enter Try.func10, Try.ntmps10
    go_wp2
    go_loopw [0, 4] (fun c0 c4 wr => ∃ (r : ByteArray) (xs : List Ev) (n : Nat), c0 = .string r ∧ EO wr w.heap.size c4 xs ∧ r.size ≤ n ∧ partsF s.size s = (partsF n r).map (xs ++ ·) ∧ xs.length + r.size ≤ s.size ∧ Below w.heap.size w wr) (fun c0 _ _ => szV c0)
    case atStart => exact ⟨s, [], s.size, rfl, EO.nil _ _, Nat.le_refl _, by simp, by simp, Below.refl _ _⟩
    case round =>
      obtain ⟨r, xs, n, rfl, hE, hn, hp, hx, hb⟩ := hrel
      by_cases h0 : r.size = 0
      · have t2 : r.toList.isEmpty = true := em_t h0
        have e : partsF s.size s = some xs := by
          rw [hp]
          cases n with
          | zero => unfold partsF; rw [if_pos h0]; simp
          | succ n => unfold partsF; rw [if_pos h0]; simp
        have e' : Hid (partsF s.size s = some xs) := e
        clear hp e
        go_wp2
        go_ret2
        have e : partsF s.size s = some xs := e'
        obtain ⟨p1, p2⟩ := parts_some hz e
        exact ⟨_, by rw [p1]; rfl, by rw [p2]; exact hE, hb⟩
      · have t2 : r.toList.isEmpty = false := em_f h0
        obtain ⟨m, rfl⟩ : ∃ m, n = m + 1 := ⟨n - 1, by omega⟩
        have hc := cut_any r wr (by unfold maxLen; omega)
        rcases Bool.eq_false_or_eq_true (cutB r) with h | h
        · obtain ⟨h1, h2⟩ := cutB_parts h
          have hp' := headB_parts h1
          have hrs := restS_size h1
          have e : partsF s.size s = (partsF m (restS r)).map ((xs ++ [evS r]) ++ ·) := by
            rw [hp]
            conv => lhs; unfold partsF
            rw [if_neg h0, if_pos h]
            cases partsF m (restS r) <;> simp
          rw [h, show cutX r = evS r from if_pos h1, show cutR r = restS r from if_pos h1] at hc
          have HQ : restS r = restS r := rfl
          clear hp
          obtain ⟨q, hq⟩ : ∃ q, restS r = q := ⟨_, rfl⟩
          obtain ⟨X, hX⟩ : ∃ X, evS r = X := ⟨_, rfl⟩
          rw [hq] at hrs e HQ
          try rw [hq] at hc
          rw [hX] at e hc
          have e' : Hid (partsF s.size s = Option.map (fun x => xs ++ [X] ++ x) (partsF m q)) := e
          clear e
          obtain ⟨K, T, D⟩ := X
          go_wp2_with fail
          refine hc.mono ?_
          rintro e1 w1 ⟨rfl, hb1⟩
          have hE1 := hE.later hb1
          have hbb := hb.trans (hb1.mono hb.size)
          obtain ⟨⟨c0, c1, c2⟩, -, -⟩ := (At.box w1 #[.int .i64 K, .int .i64 T, .string D] 23).three
          have hE2 := hE1.later (bel1 w1 (.cells #[.int .i64 K, .int .i64 T, .string D] 23))
          have hb2 := hbb.trans ((bel1 w1 (.cells #[.int .i64 K, .int .i64 T, .string D] 23)).mono hbb.size)
          have hxl : xs.length < 1000000 := by omega
          clear hc hE hE1 hb1 hb hbb
          go_wp2_with (first
            | (at_builtin; refine wpList_append3 (w := w1.alloc (.cells #[.int .i64 K, .int .i64 T, .string D] 23)) rfl _ _ rfl w.heap.size u4 xs ⟨K, T, D⟩ rfl hE2 (by rw [World.size_alloc]; rfl) hb2.size hxl ?_; intro v2 w2 hU2 hb3 ht2)
            | go_in)
          go_roundw
          case rel => exact ⟨q, xs ++ [Ev.mk K T D], m, rfl, hU2, by omega, e', by simp; omega, hb2.trans hb3⟩
          case measure => simp [szV]; omega
        · have e : partsF s.size s = none := by
            rw [hp]
            conv => lhs; unfold partsF
            rw [if_neg h0, if_neg (by rw [h]; decide)]
            rfl
          rw [h] at hc
          generalize cutX r = X at hc
          obtain ⟨K, T, D⟩ := X
          generalize cutR r = q at hc
          have e' : Hid (partsF s.size s = none) := e
          clear hp e
          go_wp2_with fail
          refine hc.mono ?_
          rintro e1 w1 ⟨rfl, hb1⟩
          go_wp2
          go_ret2
          have e : partsF s.size s = none := e'
          obtain ⟨p1, p2⟩ := parts_none hz e
          exact ⟨_, by rw [p1]; rfl, by rw [p2]; exact EO.nil _ _, (hb.trans (hb1.mono hb.size)).alloc (Nat.le_trans hb.size hb1.size) _⟩
  · rw [(parts_long hz).1, (parts_long hz).2]
    have t1 : decide ((65536 : Int) < (s.size : Int)) = true := decide_eq_true (by omega)
    go_enter Try.func10, Try.ntmps10
    go_wp2
    go_ret2
    exact ⟨_, rfl, EO.nil _ _, Below.refl _ _⟩

set_option maxHeartbeats 2000000 in
theorem rparts_any (s : ByteArray) (w : World) (hs : s.size ≤ maxLen) :
    Calls Try.prog 11 #[.string s] w fun e w' => ∃ v, e = .returned (.tuple #[v, .int .i64 (codeP s)]) ∧ EO w' w.heap.size v (listP s) ∧ Below w.heap.size w w' := by
  have hm := hs
  unfold maxLen at hs
  by_cases hz : s.size ≤ 65536
  · have t1 : decide ((65536 : Int) < (s.size : Int)) = false := decide_eq_false (by omega)
    go_enter Try.func11, Try.ntmps11
    go_wp2
    go_loopw [0, 4] (fun c0 c4 wr => ∃ (r : ByteArray) (xs : List Ev) (n : Nat), c0 = .string r ∧ EO wr w.heap.size c4 xs ∧ r.size ≤ n ∧ partsF s.size s = (partsF n r).map (xs ++ ·) ∧ xs.length + r.size ≤ s.size ∧ Below w.heap.size w wr) (fun c0 _ _ => szV c0)
    case atStart => exact ⟨s, [], s.size, rfl, EO.nil _ _, Nat.le_refl _, by simp, by simp, Below.refl _ _⟩
    case round =>
      obtain ⟨r, xs, n, rfl, hE, hn, hp, hx, hb⟩ := hrel
      by_cases h0 : r.size = 0
      · have t2 : r.toList.isEmpty = true := em_t h0
        have e : partsF s.size s = some xs := by
          rw [hp]
          cases n with
          | zero => unfold partsF; rw [if_pos h0]; simp
          | succ n => unfold partsF; rw [if_pos h0]; simp
        have e' : Hid (partsF s.size s = some xs) := e
        clear hp e
        go_wp2
        go_ret2
        have e : partsF s.size s = some xs := e'
        obtain ⟨p1, p2⟩ := parts_some hz e
        exact ⟨_, by rw [p1]; rfl, by rw [p2]; exact hE, hb⟩
      · have t2 : r.toList.isEmpty = false := em_f h0
        obtain ⟨m, rfl⟩ : ∃ m, n = m + 1 := ⟨n - 1, by omega⟩
        have hc := first_any r wr (by unfold maxLen; omega)
        rcases Bool.eq_false_or_eq_true (cutB r) with h | h
        · obtain ⟨h1, h2⟩ := cutB_parts h
          have hp' := headB_parts h1
          have hrs := restS_size h1
          have e : partsF s.size s = (partsF m (restS r)).map ((xs ++ [evS r]) ++ ·) := by
            rw [hp]
            conv => lhs; unfold partsF
            rw [if_neg h0, if_pos h]
            cases partsF m (restS r) <;> simp
          rw [show firstX r = evS r from if_pos h, show firstN r = 9 + longS r from if_pos h] at hc
          have t3 : ((9 + longS r : Int) == 0) = false := by simp; omega
          have HQ := sl_from r (restS r) (9 + longS r) (by rw [show (9 + longS r).toNat = 9 + (longS r).toNat by omega]; rfl) (by omega) (by omega)
          obtain ⟨M, hM⟩ : ∃ M, 9 + longS r = M := ⟨_, rfl⟩
          rw [hM] at hc t3 HQ
          clear hp
          obtain ⟨q, hq⟩ : ∃ q, restS r = q := ⟨_, rfl⟩
          obtain ⟨X, hX⟩ : ∃ X, evS r = X := ⟨_, rfl⟩
          rw [hq] at hrs e HQ
          try rw [hq] at hc
          rw [hX] at e hc
          have e' : Hid (partsF s.size s = Option.map (fun x => xs ++ [X] ++ x) (partsF m q)) := e
          clear e
          obtain ⟨K, T, D⟩ := X
          go_wp2_with fail
          refine hc.mono ?_
          rintro e1 w1 ⟨rfl, hb1⟩
          have hE1 := hE.later hb1
          have hbb := hb.trans (hb1.mono hb.size)
          obtain ⟨⟨c0, c1, c2⟩, -, -⟩ := (At.box w1 #[.int .i64 K, .int .i64 T, .string D] 23).three
          have hE2 := hE1.later (bel1 w1 (.cells #[.int .i64 K, .int .i64 T, .string D] 23))
          have hb2 := hbb.trans ((bel1 w1 (.cells #[.int .i64 K, .int .i64 T, .string D] 23)).mono hbb.size)
          have hxl : xs.length < 1000000 := by omega
          clear hc hE hE1 hb1 hb hbb
          go_wp2_with (first
            | (at_builtin; refine wpList_append3 (w := w1.alloc (.cells #[.int .i64 K, .int .i64 T, .string D] 23)) rfl _ _ rfl w.heap.size u4 xs ⟨K, T, D⟩ rfl hE2 (by rw [World.size_alloc]; rfl) hb2.size hxl ?_; intro v2 w2 hU2 hb3 ht2)
            | go_in)
          go_roundw
          case rel => exact ⟨q, xs ++ [Ev.mk K T D], m, rfl, hU2, by omega, e', by simp; omega, hb2.trans hb3⟩
          case measure => simp [szV]; omega
        · have e : partsF s.size s = none := by
            rw [hp]
            conv => lhs; unfold partsF
            rw [if_neg h0, if_neg (by rw [h]; decide)]
            rfl
          rw [show firstX r = zE from if_neg (by rw [h]; decide), show firstN r = 0 from if_neg (by rw [h]; decide)] at hc
          have e' : Hid (partsF s.size s = none) := e
          clear hp e
          go_wp2_with fail
          refine hc.mono ?_
          rintro e1 w1 ⟨rfl, hb1⟩
          go_wp2
          go_ret2
          have e : partsF s.size s = none := e'
          obtain ⟨p1, p2⟩ := parts_none hz e
          exact ⟨_, by rw [p1]; rfl, by rw [p2]; exact EO.nil _ _, (hb.trans (hb1.mono hb.size)).alloc (Nat.le_trans hb.size hb1.size) _⟩
  · rw [(parts_long hz).1, (parts_long hz).2]
    have t1 : decide ((65536 : Int) < (s.size : Int)) = true := decide_eq_true (by omega)
    go_enter Try.func11, Try.ntmps11
    go_wp2
    go_ret2
    exact ⟨_, rfl, EO.nil _ _, Below.refl _ _⟩
end Go.Proofs.Ytgjkplkghoeeeaa
