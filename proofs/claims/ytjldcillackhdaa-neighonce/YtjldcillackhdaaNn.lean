/- Tick. -/
import Derived.Test.YtjldcillackhdaaNm
namespace Go.Proofs.Ytjldcillackhdaa
open Go.RowKit Go.Maps Go.Proofs.Ytjldcillackhdaa.Eth Go.Proofs.Ytjldcillackhdaa.Eth.Arp
set_option maxRecDepth 100000
set_option linter.unusedVariables false
set_option linter.unusedSimpArgs false

/-- A slice of packets to several, of its own memory. -/
def PX (w : World) (base : Nat) (v : Value) (ps : List (Int × Int)) : Prop := w.ownsRow base 29 10 v ps.length (ps.flatMap fun p => pkC p.1 p.2)
theorem PX.nil (w : World) (base : Nat) : PX w base (.slice none 0 0) [] := World.ownsRow_nil _ _ _ _
theorem PX.ge {w : World} {base : Nat} {v : Value} {l : List (Int × Int)} (h : PX w base v l) : ∀ j, v.ownBlock = some j → base ≤ j := by
  intro j hj
  rcases h.2 with ⟨rfl, -⟩ | ⟨g, cap, cur, rfl, hg, -⟩
  · simp [Value.ownBlock] at hj
  · simp [Value.ownBlock] at hj; omega
theorem PX.turn {S : Nat → Prop} {w w' : World} {base : Nat} {v : Value} {l : List (Int × Int)} (h : PX w base v l) (ht : Turn S w w') (hS : ∀ k, v.ownBlock = some k → ¬ S k) : PX w' base v l := by
  obtain ⟨i1, i2⟩ := h
  refine ⟨i1, ?_⟩
  rcases i2 with h | ⟨g, cap, cur, a1, a2, a3, a4⟩
  · exact Or.inl h
  · exact Or.inr ⟨g, cap, cur, a1, a2, (ht.block g (Array.getElem?_eq_some_iff.1 a3).1 (hS g (by rw [a1]; simp [Value.ownBlock]))).trans a3, a4⟩
theorem PX.later {w w' : World} {b : Nat} {v : Value} {l : List (Int × Int)} (h : PX w b v l) (hb : Below w.heap.size w w') : PX w' b v l := h.turn (S := fun _ => False) (Turn.of_below hb) (fun _ _ h => h)
theorem PX.low {w : World} {b b' : Nat} {v : Value} {l : List (Int × Int)} (h : PX w b v l) (hb : b' ≤ b) : PX w b' v l := by
  obtain ⟨h1, h2⟩ := h
  refine ⟨h1, ?_⟩
  rcases h2 with h | ⟨g, cap, cur, a1, a2, a3⟩
  · exact Or.inl h
  · exact Or.inr ⟨g, cap, cur, a1, Nat.le_trans hb a2, a3⟩
/-- append of all packets of another slice. -/
theorem wpList_appendX {w : World} {ops : Array Oper} {rest : List Oper} {o : Oper} {a : Act} {Q : Exit → Act → World → Prop} (hgd : o.guard = none) (s x : Operand)
    (ho : o.op = .call { callee := .builtin .append, args := #[s, x], argTypes := #[39, 39] }) (base base' : Nat) (v : Value) (ps : List (Int × Int)) (qp : Option Addr) (qc : Nat) (pt : Int) (ids : List Int) (hids : ids ≠ []) (hs : a.eval s = v) (hown : PX w base v ps) (hx : a.eval x = .slice qp ids.length qc) (hr : PR w base' (.slice qp ids.length qc) pt ids) (hbase : base ≤ w.heap.size) (hlen : ps.length + ids.length < 1000000)
    (h : ∀ v' w', PX w' base v' (ps ++ ids.map fun i => (pt, i)) → Below base w w' → Turn (fun k => v.ownBlock = some k) w w' → wpList Try.prog ops Q rest (a.put o.dst v') w') : wpList Try.prog ops Q (o :: rest) a w := by
  obtain ⟨i0, hi, hz0, hz1, hz2⟩ := info_parts infoP
  obtain ⟨g, rfl⟩ : ∃ g, qp = some ⟨g, 0, none⟩ := by
    rcases hr.2 with ⟨h2, h0⟩ | ⟨g2, cap2, cur2, h2, -⟩
    · exact absurd (List.length_eq_zero_iff.1 h0) hids
    · injection h2 with e; exact ⟨g2, e⟩
  have hfm : (ids.map fun i => (pt, i)).flatMap (fun p : Int × Int => pkC p.1 p.2) = ids.flatMap (pkC pt) := by rw [List.flatMap_map]
  refine wpList_append_own _ hgd s x 39 ho base 29 i0 _ 10 88 Try.underlying39 hi hz0 hz1 hz2 rfl (by decide) v ps.length (ps.flatMap fun (p : Int × Int) => pkC p.1 p.2) hs hown ⟨g, 0, none⟩ ids.length qc (ids.flatMap (pkC pt)) hx (pflat_len pt ids) ?_ ?_ (by unfold maxLen; omega) (by omega) hbase ?_
  · intro j u hu
    exact World.ownsRow.cells hr (g := g) rfl j u hu
  · intro u hu
    obtain ⟨i, -, hi⟩ := List.mem_flatMap.1 hu
    simp only [pkC, List.mem_cons, List.not_mem_nil, or_false] at hi
    rcases hi with rfl | rfl | rfl | rfl | rfl | rfl | rfl | rfl | rfl | rfl <;> rfl
  · intro v' w' h1 h2 h3
    have hT : Turn (fun k => v.ownBlock = some k) w w' := Turn.of_grown h2 (fun j hj => Or.inl hj)
    refine h v' w' ?_ (hT.below hbase (fun k hk he => by have := hown.ge k he; omega)) hT
    unfold PX
    rw [List.length_append, List.length_map, List.flatMap_append, hfm]
    exact h1
/-- A slice of ARP packets of its own memory. -/
def AX (w : World) (base : Nat) (v : Value) (n : Nat) : Prop := ∃ xs, w.ownsRow base 31 5 v n xs
theorem AX.ge {w : World} {base : Nat} {v : Value} {n : Nat} (h : AX w base v n) : ∀ j, v.ownBlock = some j → base ≤ j := by
  intro j hj
  obtain ⟨xs, h⟩ := h
  rcases h.2 with ⟨rfl, -⟩ | ⟨g, cap, cur, rfl, hg, -⟩
  · simp [Value.ownBlock] at hj
  · simp [Value.ownBlock] at hj; omega
theorem AX.lt {w : World} {base : Nat} {v : Value} {n : Nat} (h : AX w base v n) : ∀ k, v.ownBlock = some k → k < w.heap.size := by
  obtain ⟨xs, h⟩ := h
  exact fun k hk => (World.ownsRow.lt h k hk).2
theorem PX.lt {w : World} {base : Nat} {v : Value} {l : List (Int × Int)} (h : PX w base v l) : ∀ k, v.ownBlock = some k → k < w.heap.size := fun k hk => (World.ownsRow.lt h k hk).2
theorem AX.turn {S : Nat → Prop} {w w' : World} {base : Nat} {v : Value} {n : Nat} (h : AX w base v n) (ht : Turn S w w') (hS : ∀ k, v.ownBlock = some k → ¬ S k) : AX w' base v n := by
  obtain ⟨xs, i1, i2⟩ := h
  refine ⟨xs, i1, ?_⟩
  rcases i2 with h | ⟨g, cap, cur, a1, a2, a3, a4⟩
  · exact Or.inl h
  · exact Or.inr ⟨g, cap, cur, a1, a2, (ht.block g (Array.getElem?_eq_some_iff.1 a3).1 (hS g (by rw [a1]; simp [Value.ownBlock]))).trans a3, a4⟩
theorem AX.later {w w' : World} {b : Nat} {v : Value} {n : Nat} (h : AX w b v n) (hb : Below w.heap.size w w') : AX w' b v n := h.turn (S := fun _ => False) (Turn.of_below hb) (fun _ _ h => h)
theorem infoA : (Try.prog.info? 31).map (fun i => (i.zero, i.size, i.bytes)) = some (some (.agg #[.int .i64 0, .int .i64 0, .int .i64 0, .int .i64 0, .int .i64 0]), 5, 40) := by kernel_rfl
theorem wpList_append5 {w : World} {ops : Array Oper} {rest : List Oper} {o : Oper} {a : Act} {Q : Exit → Act → World → Prop} (hgd : o.guard = none) (s x : Operand)
    (ho : o.op = .call { callee := .builtin .append, args := #[s, x], argTypes := #[43, 43] }) (base : Nat) (v : Value) (n : Nat) (y0 y1 y2 y3 y4 : Int) (hs : a.eval s = v) (hown : AX w base v n) (hx : a.eval x = .slice (some ⟨w.heap.size, 0, none⟩) 1 1) (hbase : base ≤ w.heap.size) (hlen : n < 1000000)
    (h : ∀ v' w', AX w' base v' (n + 1) → Below base w w' → Turn (fun k => v.ownBlock = some k) w w' → wpList Try.prog ops Q rest (a.put o.dst v') w') : wpList Try.prog ops Q (o :: rest) a (w.alloc (.cells #[.int .i64 y0, .int .i64 y1, .int .i64 y2, .int .i64 y3, .int .i64 y4] 31)) := by
  obtain ⟨i0, hi, hz0, hz1, hz2⟩ := info_parts infoA
  have hge := hown.ge
  obtain ⟨xs, hown⟩ := hown
  refine wpList_append_own _ hgd s x 43 ho base 31 i0 _ 5 40 Try.underlying43 hi hz0 hz1 hz2 rfl (by decide) v n xs hs (World.ownsRow.alloc hown _) ⟨w.heap.size, 0, none⟩ 1 1 [.int .i64 y0, .int .i64 y1, .int .i64 y2, .int .i64 y3, .int .i64 y4] hx rfl ?_ (by simp [Value.oneCell']) (by unfold maxLen; omega) (by omega) (Nat.le_trans hbase (bel1 w _).size) ?_
  · intro j u hu
    rw [Addr.add_lit, Nat.zero_add]
    exact ((At.box w #[.int .i64 y0, .int .i64 y1, .int .i64 y2, .int .i64 y3, .int .i64 y4] 31).2 j u (by simpa using hu)).1
  · intro v' w' h1 h2 h3
    have hT : Turn (fun k => v.ownBlock = some k) w w' := (Turn.of_below (bel1 w _)).and h2 (fun j hj => Or.inl hj)
    exact h v' w' ⟨_, h1⟩ (hT.below hbase (fun k hk he => by have := hge k he; omega)) hT
abbrev Ga := Int → Option (Int × Bool × Sl)
/-- What a tick makes of one that is asked for. -/
def tickG (ga : Ga) (now pa : Int) (k : Int) : Option (Int × Bool × Sl) :=
  match ga k with
  | some p => if now - p.1 < pa then some p else if p.2.1 = true then none else some (now, true, p.2.2)
  | none => none
def lostB (ga : Ga) (now pa : Int) (k : Int) : Bool :=
  match ga k with
  | some p => !(decide (now - p.1 < pa)) && p.2.1
  | none => false
def lostL (ga : Ga) (gi : Int → List Int) (now pa : Int) (ks : List Int) : List (Int × Int) := ks.flatMap fun k => if lostB ga now pa k = true then (gi k).map fun i => (k, i) else []
theorem lost_snoc {ga : Ga} {gi : Int → List Int} {now pa : Int} {ks : List Int} {j : Nat} {k : Int} (h : ks[j]? = some k) : lostL ga gi now pa (ks.take (j + 1)) = lostL ga gi now pa (ks.take j) ++ if lostB ga now pa k = true then (gi k).map fun i => (k, i) else [] := by
  obtain ⟨hk, rfl⟩ := List.getElem?_eq_some_iff.1 h
  unfold lostL
  rw [List.take_succ_eq_append_getElem hk, List.flatMap_append]
  simp
/-- What is asked for behind j rounds. -/
def stepG (ga : Ga) (now pa : Int) (ks : List Int) (k : Int) : Option (Int × Bool × Sl) := if k ∈ ks then tickG ga now pa k else ga k
theorem step_snoc {ga : Ga} {now pa : Int} {ks : List Int} {j : Nat} {k : Int} (h : ks[j]? = some k) {g : Ga} (hg : ∀ x, g x = if x = k then tickG ga now pa k else stepG ga now pa (ks.take j) x) : g = stepG ga now pa (ks.take (j + 1)) := by
  obtain ⟨hk, rfl⟩ := List.getElem?_eq_some_iff.1 h
  have hm : ∀ x, x ∈ ks.take (j + 1) ↔ x ∈ ks.take j ∨ x = ks[j] := fun x => by rw [List.take_succ_eq_append_getElem hk, List.mem_append, List.mem_singleton]
  funext x
  rw [hg x]
  unfold stepG
  by_cases e : x = ks[j]
  · rw [if_pos e, if_pos ((hm x).2 (Or.inr e)), e]
  · rw [if_neg e]
    by_cases e2 : x ∈ ks.take j
    · rw [if_pos e2, if_pos ((hm x).2 (Or.inl e2))]
    · rw [if_neg e2, if_neg (fun h => by rcases (hm x).1 h with h | h; exact e2 h; exact e h)]
end Go.Proofs.Ytjldcillackhdaa
