/- A map whose keys are marks, as a list of entries in whatever order. -/
import Derived.Test.YtcjhniehbafhpaaFa
namespace Go.Proofs.Ytcjhniehbafhpaa
open Go.RowKit Go.Maps
set_option maxRecDepth 100000
set_option linter.unusedVariables false
set_option linter.unusedSimpArgs false

abbrev En := Mk × Value
def hE (v : Value) : Option (DataW Value × List MemPlace) := some (.held v, [])
def enD (e : En) : Lit × DataW Value := (e.1.lit, .held e.2)
/-- Block M is a map that holds the entries l; their order is ours. -/
def GM (w : World) (M : Nat) (l : List En) : Prop := (∀ e ∈ l, e.1.wf) ∧ (l.map (·.1)).Nodup ∧ ∃ es, es.Perm (l.map enD) ∧ w.ownsMap Try.prog 77 hE M l.length (.map es)
def glk (l : List En) (m : Mk) : Option Value := (l.find? (fun e => decide (e.1 = m))).map (·.2)
theorem same_mk {a b : Mk} (ha : a.wf) (hb : b.wf) : a.lit.sameKey b.lit = decide (a = b) := by
  by_cases h : a = b
  · subst h
    rw [decide_eq_true rfl]
    exact WideAt.sameKey_self (by unfold Mk.lit WideAt.IsKeyLit; trivial)
  · rw [decide_eq_false h]
    cases hs : a.lit.sameKey b.lit
    · rfl
    · exact absurd (Mk.inj ha hb (WideAt.sameKey_eq hs)) h
theorem glk_of : ∀ {l : List En} (hn : (l.map (·.1)).Nodup) {m : Mk} {v : Value}, (m, v) ∈ l → glk l m = some v
  | [], _, _, _, h => by cases h
  | y :: r, hn, m, v, h => by
    rw [List.map_cons, List.nodup_cons] at hn
    unfold glk
    by_cases e : y.1 = m
    · rw [List.find?_cons_of_pos (by simpa using e)]
      rcases List.mem_cons.1 h with h | h
      · rw [← h]; rfl
      · exact absurd (List.mem_map.2 ⟨_, h, e.symm⟩) hn.1
    · rw [List.find?_cons_of_neg (by simpa using e)]
      rcases List.mem_cons.1 h with h | h
      · rw [← h] at e; exact absurd rfl e
      · exact glk_of hn.2 h
theorem glk_none {l : List En} {m : Mk} (h : m ∉ l.map (·.1)) : glk l m = none := by
  unfold glk
  rw [List.find?_eq_none.2]
  · rfl
  · intro e he
    simp only [decide_eq_true_eq]
    intro hm
    exact h (List.mem_map.2 ⟨e, he, hm⟩)
theorem es_find {l : List En} {es : List (Lit × DataW Value)} (hw : ∀ e ∈ l, e.1.wf) (hn : (l.map (·.1)).Nodup) (hp : es.Perm (l.map enD)) {m : Mk} (hm : m.wf) : es.find? (fun p => p.1.sameKey m.lit) = (glk l m).map (fun v => (m.lit, .held v)) := by
  cases hf : es.find? (fun p => p.1.sameKey m.lit) with
  | none =>
    rw [List.find?_eq_none] at hf
    rw [glk_none]
    · rfl
    · intro h
      obtain ⟨e, he, hq⟩ := List.mem_map.1 h
      have := hf (enD e) (hp.mem_iff.2 (List.mem_map.2 ⟨e, he, rfl⟩))
      apply this
      show e.1.lit.sameKey m.lit = true
      rw [same_mk (hw e he) hm]
      exact decide_eq_true hq
  | some p =>
    have h1 := List.find?_some hf
    obtain ⟨e, he, hq⟩ := List.mem_map.1 (hp.mem_iff.1 (List.mem_of_find?_eq_some hf))
    subst hq
    have h2 : e.1 = m := by
      have : e.1.lit.sameKey m.lit = true := h1
      rw [same_mk (hw e he) hm] at this
      exact of_decide_eq_true this
    subst h2
    rw [glk_of hn (v := e.2) he]
    rfl
theorem has_iff (es : List (Lit × DataW Value)) (k : Lit) : Maps.has (.map es) k = (es.find? (fun p => p.1.sameKey k)).isSome := by
  rw [has_eq]
  induction es with
  | nil => rfl
  | cons y r ih => simp only [List.any_cons, List.find?_cons]; cases y.1.sameKey k <;> simp [ih]
theorem own_len {w : World} {M n : Nat} {es : List (Lit × DataW Value)} (h : w.ownsMap Try.prog 77 hE M n (.map es)) : w.ownsMap Try.prog 77 hE M es.length (.map es) := by
  obtain ⟨es', clock, hb, F, hn, hD⟩ := h
  refine ⟨es', clock, hb, F, ?_, hD⟩
  have h2 := congrArg Maps.size hD
  rw [size_eq, size_eq, length_sorted] at h2
  simp at h2
  omega
theorem GM.made (w : World) : GM (w.alloc (.map #[] 0)) w.heap.size [] := ⟨(by intro e h; cases h), List.nodup_nil, [], List.Perm.nil, World.ownsMap_made _ _ _ _⟩
theorem GM.lt {w : World} {M : Nat} {l : List En} (h : GM w M l) : M < w.heap.size := by obtain ⟨-, -, es, -, h⟩ := h; exact h.lt
theorem GM.turn {S : Nat → Prop} {w w' : World} {M : Nat} {l : List En} (h : GM w M l) (ht : Turn S w w') (hs : ¬ S M) : GM w' M l := by
  obtain ⟨h1, h2, es, hp, es', clock, hb, hr⟩ := h
  exact ⟨h1, h2, es, hp, es', clock, (ht.block M (Array.getElem?_eq_some_iff.1 hb).1 hs).trans hb, hr⟩
theorem GM.later {w w' : World} {M : Nat} {l : List En} (h : GM w M l) (hb : Below w.heap.size w w') : GM w' M l := h.turn (S := fun _ => False) (Turn.of_below hb) (fun h => h)
theorem ne_at_gm {w : World} {B M : Nat} {vs : Array Value} {x : Value} {l : List En} (hA : At w B vs) (h0 : vs[0]? = some x) (hL : GM w M l) : B ≠ M := by
  intro e
  subst e
  obtain ⟨-, -, es, -, es', clock, hb, -⟩ := hL
  have := (hA.2 0 x h0).1
  simp [World.cell?, hb] at this
theorem zeroP (w : World) : (zeroValue 61).run Try.prog w = .ok (.agg #[.int .i64 0, .int .i64 0, .slice none 0 0]) w := by kernel_rfl
section
variable {w : World} {M : Nat} {l : List En}
theorem GM.look (h : GM w M l) {m : Mk} (hm : m.wf) : (Instr.lookup 54 (.map (some M)) m.V true).run Try.prog w = .ok (.tuple #[(glk l m).getD (.agg #[.int .i64 0, .int .i64 0, .slice none 0 0]), .bool (glk l m).isSome]) w := by
  obtain ⟨h1, h2, es, hp, ho⟩ := h
  obtain ⟨v, ps, hr, hv⟩ := ho.look_ok lawM Try.underlying54 (zeroP w) (zd := .held (.agg #[.int .i64 0, .int .i64 0, .slice none 0 0])) (zp := []) rfl (m.key hm)
  rw [has_iff, es_find h1 h2 hp hm] at hr
  have ha : (DataW.map es).atKey m.lit (.held (.agg #[.int .i64 0, .int .i64 0, .slice none 0 0])) = .held ((glk l m).getD (.agg #[.int .i64 0, .int .i64 0, .slice none 0 0])) := by
    unfold DataW.atKey
    simp only [es_find h1 h2 hp hm]
    cases glk l m <;> rfl
  rw [ha] at hv
  unfold hE at hv
  injection hv with hv
  injection hv with e1 e2
  injection e1 with e1
  rw [hr, e1]
  cases glk l m <;> rfl
theorem GM.len (h : GM w M l) (ty : TypeId) : (Builtin.len_ #[54] ty #[.map (some M)]).run Try.prog w = .ok (.int .i64 l.length) w := by
  obtain ⟨h1, h2, es, hp, ho⟩ := h
  have := ho.len Try.underlying54 ty
  rw [size_eq, hp.length_eq, List.length_map] at this
  exact this
theorem filter_new (hw : ∀ e ∈ l, e.1.wf) {m : Mk} (hm : m.wf) (hn : m ∉ l.map (·.1)) : (l.map enD).filter (fun p => !p.1.sameKey m.lit) = l.map enD := by
  rw [List.filter_eq_self]
  intro p hp
  obtain ⟨e, he, rfl⟩ := List.mem_map.1 hp
  show (!e.1.lit.sameKey m.lit) = true
  rw [same_mk (hw e he) hm, decide_eq_false (fun h => hn (List.mem_map.2 ⟨e, he, h⟩))]
  rfl
theorem filter_at {a b : List En} {u : Value} {m : Mk} (hw : ∀ e ∈ a ++ (m, u) :: b, e.1.wf) (hn : ((a ++ (m, u) :: b).map (·.1)).Nodup) : ((a ++ (m, u) :: b).map enD).filter (fun p => !p.1.sameKey m.lit) = (a ++ b).map enD := by
  have hm : m.wf := hw (m, u) (by simp)
  rw [List.map_append, List.map_cons, List.nodup_append] at hn
  obtain ⟨n1, n2, n3⟩ := hn
  rw [List.nodup_cons] at n2
  have ha : m ∉ a.map (·.1) := fun h => n3 m h m (by simp) rfl
  rw [List.map_append, List.filter_append, filter_new (fun e he => hw e (by simp [he])) hm ha, List.map_cons, List.filter_cons]
  have : (!(enD (m, u)).1.sameKey m.lit) = false := by
    show (!m.lit.sameKey m.lit) = false
    rw [same_mk hm hm]; simp
  rw [this, List.map_append]
  simp only [Bool.false_eq_true, if_false]
  rw [filter_new (fun e he => hw e (by simp [he])) hm n2.1]
theorem GM.put (h : GM w M l) (hn : l.length < 1000000) {m : Mk} (hm : m.wf) (hnew : m ∉ l.map (·.1)) (v : Value) :
    ∃ w', (Instr.mapUpdate 54 (.map (some M)) m.V v).run Try.prog w = .ok () w' ∧ GM w' M (l ++ [(m, v)]) ∧ Turn (fun j => j = M) w w' := by
  obtain ⟨h1, h2, es, hp, ho⟩ := h
  obtain ⟨w', hr, ho', hg⟩ := ho.update lawM Try.underlying54 (by unfold maxLen; omega) (val := v) (d := .held v) (ps := []) (m.key hm) rfl
  refine ⟨w', hr, ⟨?_, ?_, DataW.insert (m.lit, .held v) (es.filter fun p => !p.1.sameKey m.lit), ?_, ?_⟩, Turn.of_grown hg (fun j hj => by cases hj; exact Or.inl rfl)⟩
  · intro e he
    rcases List.mem_append.1 he with he | he
    · exact h1 e he
    · rw [List.mem_singleton.1 he]; exact hm
  · rw [List.map_append, List.nodup_append]
    exact ⟨h2, by simp, fun a ha b hb e => hnew (by simp at hb; rw [← hb, ← e]; exact ha)⟩
  · refine (WideShapes.insert_perm _ _).trans ?_
    rw [List.map_append]
    refine (List.Perm.cons _ ((hp.filter _).trans (by rw [filter_new h1 hm hnew]))).trans ?_
    exact (List.perm_append_singleton (enD (m, v)) (l.map enD)).symm
  · have := own_len ho'
    have hl : (DataW.insert (m.lit, .held v) (es.filter fun p => !p.1.sameKey m.lit)).length = (l ++ [(m, v)]).length := by
      rw [(WideShapes.insert_perm _ _).length_eq, List.length_cons, (hp.filter _).length_eq, filter_new h1 hm hnew]
      simp
    rw [hl] at this
    exact this
theorem GM.set {a b : List En} {u : Value} {m : Mk} (h : GM w M (a ++ (m, u) :: b)) (hn : (a ++ (m, u) :: b).length < 1000000) (v : Value) :
    ∃ w', (Instr.mapUpdate 54 (.map (some M)) m.V v).run Try.prog w = .ok () w' ∧ GM w' M (a ++ (m, v) :: b) ∧ Turn (fun j => j = M) w w' := by
  obtain ⟨h1, h2, es, hp, ho⟩ := h
  have hm : m.wf := h1 (m, u) (by simp)
  obtain ⟨w', hr, ho', hg⟩ := ho.update lawM Try.underlying54 (by unfold maxLen; omega) (val := v) (d := .held v) (ps := []) (m.key hm) rfl
  refine ⟨w', hr, ⟨?_, ?_, DataW.insert (m.lit, .held v) (es.filter fun p => !p.1.sameKey m.lit), ?_, ?_⟩, Turn.of_grown hg (fun j hj => by cases hj; exact Or.inl rfl)⟩
  · intro e he
    rcases List.mem_append.1 he with he | he
    · exact h1 e (by simp [he])
    · rcases List.mem_cons.1 he with he | he
      · rw [he]; exact hm
      · exact h1 e (by simp [he])
  · simpa using h2
  · refine (WideShapes.insert_perm _ _).trans ?_
    refine (List.Perm.cons _ ((hp.filter _).trans (by rw [filter_at h1 h2]))).trans ?_
    rw [List.map_append, List.map_append, List.map_cons]
    exact List.perm_middle.symm
  · have := own_len ho'
    have hl : (DataW.insert (m.lit, .held v) (es.filter fun p => !p.1.sameKey m.lit)).length = (a ++ (m, v) :: b).length := by
      rw [(WideShapes.insert_perm _ _).length_eq, List.length_cons, (hp.filter _).length_eq, filter_at h1 h2]
      simp; omega
    rw [hl] at this
    exact this
theorem GM.del {a b : List En} {u : Value} {m : Mk} (h : GM w M (a ++ (m, u) :: b)) (ty : TypeId) :
    ∃ w', (Builtin.delete_ #[54, 77] ty #[.map (some M), m.V]).run Try.prog w = .ok (.tuple #[]) w' ∧ GM w' M (a ++ b) ∧ Turn (fun j => j = M) w w' := by
  obtain ⟨h1, h2, es, hp, ho⟩ := h
  have hm : m.wf := h1 (m, u) (by simp)
  obtain ⟨w', hr, ho', hg⟩ := ho.drop lawM Try.underlying54 (m.key hm) ty
  refine ⟨w', hr, ⟨?_, ?_, es.filter (fun p => !p.1.sameKey m.lit), ?_, ?_⟩, Turn.of_grown hg.grown (fun j hj => by cases hj; exact Or.inl rfl)⟩
  · intro e he
    rcases List.mem_append.1 he with he | he
    · exact h1 e (by simp [he])
    · exact h1 e (by simp [he])
  · rw [List.map_append, List.map_cons] at h2
    rw [List.map_append]
    exact List.Pairwise.sublist (List.Sublist.append_left (List.sublist_cons_self _ _) _) h2
  · exact (hp.filter _).trans (by rw [filter_at h1 h2])
  · have := own_len ho'
    have hl : (es.filter fun p => !p.1.sameKey m.lit).length = (a ++ b).length := by
      rw [(hp.filter _).length_eq, filter_at h1 h2]
      simp
    rw [hl] at this
    exact this
theorem GM.del0 (h : GM w M l) {m : Mk} (hm : m.wf) (hnew : m ∉ l.map (·.1)) (ty : TypeId) :
    ∃ w', (Builtin.delete_ #[54, 77] ty #[.map (some M), m.V]).run Try.prog w = .ok (.tuple #[]) w' ∧ GM w' M l ∧ Turn (fun j => j = M) w w' := by
  obtain ⟨h1, h2, es, hp, ho⟩ := h
  obtain ⟨w', hr, ho', hg⟩ := ho.drop lawM Try.underlying54 (m.key hm) ty
  refine ⟨w', hr, ⟨h1, h2, es.filter (fun p => !p.1.sameKey m.lit), (hp.filter _).trans (by rw [filter_new h1 hm hnew]), ?_⟩, Turn.of_grown hg.grown (fun j hj => by cases hj; exact Or.inl rfl)⟩
  have := own_len ho'
  have hl : (es.filter fun p => !p.1.sameKey m.lit).length = l.length := by
    rw [(hp.filter _).length_eq, filter_new h1 hm hnew]
    simp
  rw [hl] at this
  exact this
end
end Go.Proofs.Ytcjhniehbafhpaa
