/- A slice of one packet; append of one packet. -/
import Derived.Test.YtcjhniehbafhpaaFr
import Derived.Test.YtcjhniehbafhpaaFq
import Derived.Maps.AppendAt
import Derived.OwnWalk
import Derived.Great.BuildSlice
namespace Go.Proofs.Ytcjhniehbafhpaa
open Go.RowKit Go.Maps
set_option maxRecDepth 100000
set_option linter.unusedVariables false
set_option linter.unusedSimpArgs false

theorem infoP2 : (Try.prog.info? 32).map (fun i => (i.zero, i.size, i.bytes)) = some (some (.agg #[.int .i64 0, .int .i64 0, .int .i64 0, .int .i64 0, .int .i64 0, .int .i64 0, .bool false, .bool false, .string ⟨#[]⟩, .string ⟨#[]⟩]), 10, 88) := by kernel_rfl
theorem L_one2 (q : Pk) : ∀ u ∈ q.L, u.oneCell' = true := by
  intro u hu
  simp only [Pk.L, List.mem_cons, List.not_mem_nil, or_false] at hu
  rcases hu with rfl | rfl | rfl | rfl | rfl | rfl | rfl | rfl | rfl | rfl <;> rfl
/-- append of one packet. -/
theorem wpList_appendP2 {w : World} {ops : Array Oper} {rest : List Oper} {o : Oper} {a : Act} {Q : Exit → Act → World → Prop} (hgd : o.guard = none) (s x : Operand)
    (ho : o.op = .call { callee := .builtin .append, args := #[s, x], argTypes := #[36, 36] }) (R : Nat) (v : Value) (ps : List Pk) (q : Pk) (g c : Nat) (hs : a.eval s = v) (hown : RW w R v ps) (hx : a.eval x = .slice (some ⟨g, 0, none⟩) 1 c) (hr : ∀ j u, q.L[j]? = some u → w.cell? ⟨g, j, none⟩ = some u) (hR : R ≤ w.heap.size) (hlen : ps.length < 1000000)
    (h : ∀ v' w', RW w' R v' (ps ++ [q]) → Turn (fun k => v.ownBlock = some k) w w' → (∀ k, v'.ownBlock = some k → v.ownBlock = some k ∨ w.heap.size ≤ k) → wpList Try.prog ops Q rest (a.put o.dst v') w') : wpList Try.prog ops Q (o :: rest) a w := by
  obtain ⟨i0, hi, hz0, hz1, hz2⟩ := info_parts infoP2
  refine wpList_append_own_at _ hgd s x 36 ho R 32 i0 _ 10 88 Try.underlying36 hi hz0 hz1 hz2 rfl (by decide) v ps.length (flatP ps) hs hown ⟨g, 0, none⟩ 1 c q.L hx rfl ?_ (L_one2 q) (by unfold maxLen; omega) (by omega) hR ?_
  · intro j u hu
    rw [Addr.add_mid, Nat.zero_add]
    exact hr j u hu
  · intro v' w' h1 h2 h3 h4
    have hT : Turn (fun k => v.ownBlock = some k) w w' := Turn.of_grown h2 (fun j hj => Or.inl hj)
    have h1' : RW w' R v' (ps ++ [q]) := by
      unfold RW
      rw [flatP_snoc, List.length_append, List.length_singleton]
      exact h1
    refine h v' w' h1' hT (fun k hk => ?_)
    rcases h4 with e | e
    · exact Or.inl (by rw [← e]; exact hk)
    · rw [e] at hk
      injection hk with hk
      exact Or.inr (by omega)
theorem bsP2 (q : Pk) (w : World) : (Instr.buildSlice 36 1 #[(0, .agg #[.int .i64 q.f, .int .i64 q.t, .int .i64 q.tl, .int .i64 q.pr, .int .i64 q.id, .int .i64 q.fr, .bool q.mo, .bool q.dn, .string q.op, .string q.da])]).run Try.prog w = .ok (.slice (some ⟨w.heap.size, 0, none⟩) 1 1) (w.alloc (.cells #[.int .i64 q.f, .int .i64 q.t, .int .i64 q.tl, .int .i64 q.pr, .int .i64 q.id, .int .i64 q.fr, .bool q.mo, .bool q.dn, .string q.op, .string q.da] 32)) := by
  obtain ⟨i0, hi, hz0, hz1, hz2⟩ := info_parts infoP2
  refine run_buildSlice w 36 32 1 _ _ i0 _ Try.underlying36 hi hz0 (by rw [hz1]; decide) (by rw [hz1]; decide) ?_
  rw [hz1]; kernel_rfl
/-- []Packet{q}. -/
theorem wpList_bsliceP2 {w : World} {ops : Array Oper} {rest : List Oper} {op : Oper} {a : Act} {Q : Exit → Act → World → Prop} (hgd : op.guard = none) (i : Operand) (ho : op.op = .buildSlice 36 1 #[(0, i)]) (q : Pk) (vs : Array Value) (hvs : vs = #[.int .i64 q.f, .int .i64 q.t, .int .i64 q.tl, .int .i64 q.pr, .int .i64 q.id, .int .i64 q.fr, .bool q.mo, .bool q.dn, .string q.op, .string q.da]) (hi : a.eval i = .agg vs)
    (h : wpList Try.prog ops Q rest (a.put op.dst (.slice (some ⟨w.heap.size, 0, none⟩) 1 1)) (w.alloc (.cells vs 32))) : wpList Try.prog ops Q (op :: rest) a w := by
  subst hvs
  refine wpList_plain hgd fun K hK => ?_
  unfold Oper.wp execOp
  have e' : (#[(0, i)].map fun (p : Nat × Operand) => (p.1, a.eval p.2)) = #[(0, .agg #[.int .i64 q.f, .int .i64 q.t, .int .i64 q.tl, .int .i64 q.pr, .int .i64 q.id, .int .i64 q.fr, .bool q.mo, .bool q.dn, .string q.op, .string q.da])] := by simp [hi]
  simp only [ho, Sem.run_bind]
  rw [e', bsP2]
  exact hK _ _ h
end Go.Proofs.Ytcjhniehbafhpaa
