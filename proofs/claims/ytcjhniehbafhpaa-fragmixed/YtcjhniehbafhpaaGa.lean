/- Take of the pieces of a packet, in order, whatever else is in the box. -/
import Derived.Test.YtcjhniehbafhpaaFx
namespace Go.Proofs.Ytcjhniehbafhpaa
open Go.RowKit Go.Maps
set_option maxRecDepth 100000
set_option linter.unusedVariables false
set_option linter.unusedSimpArgs false

/-- The box has just these pieces of the packet of that mark. -/
def Has (l : List Pile) (m : Mk) (ps : List Pk) : Prop := (ps = [] ∧ ∀ x ∈ l, x.m ≠ m) ∨ (ps ≠ [] ∧ ∃ x ∈ l, x.m = m ∧ x.ps = ps)
theorem Has.put {a b : List Pile} {x y : Pile} {m : Mk} {qs : List Pk} (h : Has (a ++ x :: b) m qs) (hx : x.m ≠ m) (hy : y.m ≠ m) : Has (a ++ y :: b) m qs := by
  rcases h with ⟨h, k⟩ | ⟨h, z, hz, hm, hq⟩
  · refine Or.inl ⟨h, fun z hz => ?_⟩
    rcases List.mem_append.1 hz with hz | hz
    · exact k z (List.mem_append_left _ hz)
    · rcases List.mem_cons.1 hz with rfl | hz
      · exact hy
      · exact k z (List.mem_append_right _ (List.mem_cons_of_mem _ hz))
  · refine Or.inr ⟨h, z, ?_, hm, hq⟩
    rcases List.mem_append.1 hz with hz | hz
    · exact List.mem_append_left _ hz
    · rcases List.mem_cons.1 hz with rfl | hz
      · exact absurd hm hx
      · exact List.mem_append_right _ (List.mem_cons_of_mem _ hz)
theorem Has.del {a b : List Pile} {x : Pile} {m : Mk} {qs : List Pk} (h : Has (a ++ x :: b) m qs) (hx : x.m ≠ m) : Has (a ++ b) m qs := by
  rcases h with ⟨h, k⟩ | ⟨h, z, hz, hm, hq⟩
  · refine Or.inl ⟨h, fun z hz => ?_⟩
    rcases List.mem_append.1 hz with hz | hz
    · exact k z (List.mem_append_left _ hz)
    · exact k z (List.mem_append_right _ (List.mem_cons_of_mem _ hz))
  · refine Or.inr ⟨h, z, ?_, hm, hq⟩
    rcases List.mem_append.1 hz with hz | hz
    · exact List.mem_append_left _ hz
    · rcases List.mem_cons.1 hz with rfl | hz
      · exact absurd hm hx
      · exact List.mem_append_right _ hz
theorem Has.add {l : List Pile} {y : Pile} {m : Mk} {qs : List Pk} (h : Has l m qs) (hy : y.m ≠ m) : Has (l ++ y :: []) m qs := by
  rcases h with ⟨h, k⟩ | ⟨h, z, hz, hm, hq⟩
  · refine Or.inl ⟨h, fun z hz => ?_⟩
    rcases List.mem_append.1 hz with hz | hz
    · exact k z hz
    · rcases List.mem_cons.1 hz with rfl | hz
      · exact hy
      · cases hz
  · exact Or.inr ⟨h, z, List.mem_append_left _ hz, hm, hq⟩
theorem Has.gone {w : World} {R B M : Nat} {ro pa la tu : Int} {a b : List Pile} {x : Pile} (h : BX w R B M ro pa la tu (a ++ x :: b)) : Has (a ++ b) x.m [] := by
  have hn := h.map.2.1
  rw [List.map_append, List.map_cons] at hn
  refine Or.inl ⟨rfl, fun z hz e => ?_⟩
  have hn2 : ((a ++ x :: b).map (·.m)).Nodup := by
    have := hn
    rw [← List.map_cons, ← List.map_append, List.map_map] at this
    exact this
  rw [List.map_append, List.map_cons, List.nodup_append] at hn2
  obtain ⟨h1, h2, h3⟩ := hn2
  rcases List.mem_append.1 hz with hz | hz
  · exact h3 _ (List.mem_map_of_mem hz) _ (List.mem_cons_self ..) e
  · exact (List.nodup_cons.1 h2).1 (by rw [← e]; exact List.mem_map_of_mem (f := fun z : Pile => z.m) hz)
theorem range_ins {k i : Nat} {T : List Nat} (hT : T.Pairwise (· < ·)) (hm : ∀ y, y ∈ T ↔ y = k ∨ y ∈ List.range k) : T = List.range (k + 1) := by
  rw [List.range_eq_range']
  exact all_range (N := k) T 0 hT (fun t ht => ⟨Nat.zero_le _, by rcases (hm t).1 ht with e | e; omega; have := List.mem_range.1 e; omega⟩) (fun x _ hx => (hm x).2 (if e : x = k then Or.inl e else Or.inr (List.mem_range.2 (by omega))))
/-- The rows of l' lie where those of l did, or are new. -/
def Locs (w : World) (l l' : List Pile) : Prop := ∀ y ∈ l', ∀ k, y.v.ownBlock = some k → (∃ x ∈ l, x.v.ownBlock = some k) ∨ w.heap.size ≤ k
theorem tp_fin2 {P : List Pile → Prop} {w w' : World} {R B M : Nat} {ro pa la now tu tu' : Int} {l : List Pile} (hBX : BX w R B M ro pa la tu l) {Φ : World → World → Prop} (h : TP w w' R B M ro pa now tu l Φ) (hΦ : ∀ W W', BX W R B M ro pa now tu l → Φ W W' → Turn (FL B M l) W W' ∧ ∃ L, P L ∧ BX W' R B M ro pa now tu' L ∧ ∀ y ∈ L, ∀ k, y.v.ownBlock = some k → (∃ x ∈ l, x.v.ownBlock = some k) ∨ W.heap.size ≤ k) : (∃ L, P L ∧ BX w' R B M ro pa now tu' L ∧ Locs w l L) ∧ Turn (FL B M l) w w' := by
  obtain ⟨W, W', hW, ht1, hs, hφ, ht2⟩ := h
  obtain ⟨ht, L, hL, hB, hloc⟩ := hΦ W W' hW hφ
  have hRw := hBX.rw'
  have hbR := hBX.bR
  have hmR := hBX.mR
  have hs1 := ht1.size
  refine ⟨⟨L, hL, hB.turn ht2 (by omega) (by omega) (fun y hy k hk e => ?_), fun y hy k hk => ?_⟩, ?_⟩
  · rcases hloc y hy k hk with ⟨x, hx, h⟩ | h
    · have := (hBX.ok x hx).row.lt k h; omega
    · omega
  · rcases hloc y hy k hk with h | h
    · exact Or.inl h
    · exact Or.inr (by omega)
  · exact ((ht1.mono (S' := FL B M l) (fun k e => Or.inl e)).trans ht).step ht2 (fun k e => Or.inr (by omega))
/-- What Take leaves of the box where a piece was put to those that are there. -/
def MoreB (w w' : World) (R B M : Nat) (ro pa now tu : Int) (l : List Pile) (m : Mk) (ps : List Pk) (first : Bool) : Prop := (∃ l' tu', BX w' R B M ro pa now tu' l' ∧ Has l' m ps ∧ l'.length = l.length + (if first then 1 else 0) ∧ tu ≤ tu' ∧ tu' ≤ tu + 1 ∧ (∀ m' qs, m' ≠ m → Has l m' qs → Has l' m' qs) ∧ Locs w l l') ∧ Turn (FL B M l) w w'
/-- And where the packet became whole. -/
def DoneB (w w' : World) (R B M : Nat) (ro pa now tu : Int) (l : List Pile) (m : Mk) (one : Bool) : Prop := (∃ l', BX w' R B M ro pa now tu l' ∧ Has l' m [] ∧ l'.length + (if one then 0 else 1) = l.length ∧ (∀ m' qs, m' ≠ m → Has l m' qs → Has l' m' qs) ∧ Locs w l l') ∧ Turn (FL B M l) w w'
section
variable {p : Pk} {Q N : Nat} (h : Cx p Q N)
include h
theorem more2 {k : Nat} (hk : k < N) (hN : N < 64) {w : World} {R B M : Nat} {ro pa la tu : Int} {l : List Pile} (hB : BX w R B M ro pa la tu l) (hH : Has l (mk p) ((List.range k).map (pc p Q N))) (hlr : (l.length : Int) < ro) (hro2 : ro ≤ 64) (htu0 : 0 ≤ tu) (htu1 : tu ≤ 100000) (now : Int) (hn1 : la ≤ now) (hn2 : now ≤ 1099511627776) :
    Calls Try.prog 13 #[.pointer (some ⟨B, 0, none⟩), .agg #[.int .i64 (pc p Q N k).f, .int .i64 (pc p Q N k).t, .int .i64 (pc p Q N k).tl, .int .i64 (pc p Q N k).pr, .int .i64 (pc p Q N k).id, .int .i64 (pc p Q N k).fr, .bool (pc p Q N k).mo, .bool (pc p Q N k).dn, .string (pc p Q N k).op, .string (pc p Q N k).da], .int .i64 now] w fun e w' => e = .returned (.tuple #[.agg #[.int .i64 0, .int .i64 0, .int .i64 0, .int .i64 0, .int .i64 0, .int .i64 0, .bool false, .bool false, .string ⟨#[]⟩, .string ⟨#[]⟩], .bool false, .int .i64 0]) ∧ MoreB w w' R B M ro pa now tu l (mk p) ((List.range (k + 1)).map (pc p Q N)) (decide (k = 0)) := by
  have hS : (List.range k).Pairwise (· < ·) := List.pairwise_lt_range
  have hn : k ∉ List.range k := fun e => by have := List.mem_range.1 e; omega
  have hSN : ∀ s ∈ List.range k, s ≤ N := fun s hs => by have := List.mem_range.1 hs; omega
  have key : ∀ i, Cutp ((List.range k).map (pc p Q N)) (pc p Q N k).fr i i → completeB (insL ((List.range k).map (pc p Q N)) i (pc p Q N k)) = false := fun i hc => by
    rw [ins_map]
    exact not_all h (insN_rise h hS hn hc) (fun t ht => (insN_mem.1 ht).elim (fun e => by omega) (fun e => hSN t e)) (x := N) (Nat.le_refl _) (fun e => (insN_mem.1 e).elim (fun e => by omega) (fun e => by have := List.mem_range.1 e; omega))
  have hkN : k ≤ N := by omega
  rcases hH with ⟨e, hno⟩ | ⟨hne, x, hx, hxm, hxp⟩
  · have hk0 : k = 0 := by
      rw [List.map_eq_nil_iff] at e
      cases k with
      | zero => rfl
      | succ k => rw [List.range_succ] at e; simp at e
    subst hk0
    have hf := fits_pc h hkN hSN hn (by decide)
    have hc0 : completeB [pc p Q N 0] = false := key 0 ⟨fun t q hq => by simp at hq, fun t q hq => by simp at hq⟩
    refine (take_no (pc p Q N 0) (pc_may h hkN) w R B M ro pa la tu _ hB now hn1 hn2 (pc_part h hkN) _ (fun W hW => lay_new (pc p Q N 0) (may_fine (pc_may h hkN)) (may_wf (pc_may h hkN)) W R B M ro pa now tu l hW (by
      rw [pc_mk h]
      intro hm
      obtain ⟨x, hx, e⟩ := List.mem_map.1 hm
      exact hno x hx e) hlr hro2 htu0 (by omega) hf hc0) (fun W W' _ h => by obtain ⟨_, _, _, _, _, h, _⟩ := h; exact h)).mono ?_
    rintro e w' ⟨rfl, hT⟩
    obtain ⟨⟨L, ⟨v', hL⟩, hB', hLo⟩, ht⟩ := tp_fin2 (tu' := tu + 1) (P := fun L => ∃ v', L = l ++ ⟨mk (pc p Q N 0), now, tu + 1, v', [pc p Q N 0]⟩ :: []) hB hT (fun W W' _ hφ => by
      obtain ⟨v', i, hi, hcut, hb, htt, hlo⟩ := hφ
      obtain rfl : i = 0 := by simpa using hi
      refine ⟨htt, _, ⟨v', rfl⟩, hb, fun y hy j hj => ?_⟩
      rcases List.mem_append.1 hy with hy | hy
      · exact Or.inl ⟨y, hy, hj⟩
      · rw [List.mem_singleton.1 hy] at hj
        exact hlo j hj)
    subst hL
    rw [pc_mk h] at hB' hLo
    refine ⟨rfl, ⟨_, _, hB', Or.inr ⟨by simp, _, List.mem_append_right _ (List.mem_cons_self ..), rfl, rfl⟩, by simp, by omega, by omega, fun m' qs hm' hh => ?_, hLo⟩, ht⟩
    exact hh.add (fun e => hm' e.symm)
  · obtain ⟨a, b, rfl⟩ := List.append_of_mem hx
    obtain ⟨m, at_, tx, v, ps⟩ := x
    simp only at hxm hxp
    subst hxm hxp
    clear hx
    have hk0 : k ≠ 0 := fun e => by subst e; exact hne rfl
    have hf := fits_pc h hkN hSN hn (by rw [List.length_range]; omega)
    have hh : ((List.range k).map (pc p Q N)).any (hasB (pc p Q N k)) = false := by rw [any_has h]; exact decide_eq_false hn
    rw [← pc_mk h k] at hB
    refine (take_no (pc p Q N k) (pc_may h hkN) w R B M ro pa la tu _ hB now hn1 hn2 (pc_part h hkN) _ (fun W hW => lay_more (pc p Q N k) (may_fine (pc_may h hkN)) (may_wf (pc_may h hkN)) W R B M ro pa now tu a b at_ tx v _ hW hne (by simp only [List.length_append, List.length_cons] at hlr ⊢; omega) hh hf (fun i _ hc => key i hc)) (fun W W' _ h => by obtain ⟨_, _, _, _, _, h, _⟩ := h; exact h)).mono ?_
    rintro e w' ⟨rfl, hT⟩
    obtain ⟨⟨L, ⟨v', i, hcut, hL⟩, hB', hLo⟩, ht⟩ := tp_fin2 (tu' := tu) (P := fun L => ∃ v' i, Cutp ((List.range k).map (pc p Q N)) (pc p Q N k).fr i i ∧ L = a ++ ⟨mk (pc p Q N k), at_, tx, v', insL ((List.range k).map (pc p Q N)) i (pc p Q N k)⟩ :: b) hB hT (fun W W' _ hφ => by
      obtain ⟨v', i, hi, hcut, hb, htt, hlo⟩ := hφ
      refine ⟨htt, _, ⟨v', i, hcut, rfl⟩, hb, fun y hy j hj => ?_⟩
      rcases List.mem_append.1 hy with hy | hy
      · exact Or.inl ⟨y, List.mem_append_left _ hy, hj⟩
      · rcases List.mem_cons.1 hy with rfl | hy
        · exact hlo j hj
        · exact Or.inl ⟨y, List.mem_append_right _ (List.mem_cons_of_mem _ hy), hj⟩)
    subst hL
    rw [pc_mk h, ins_map, range_ins (i := i) (insN_rise h hS hn hcut) (fun y => insN_mem)] at hB' hLo
    rw [pc_mk h] at ht
    refine ⟨rfl, ⟨_, _, hB', Or.inr ⟨by rw [List.range_succ]; simp, _, List.mem_append_right _ (List.mem_cons_self ..), rfl, rfl⟩, by simp [hk0], Int.le_refl _, by omega, fun m' qs hm' hh => ?_, hLo⟩, ht⟩
    exact hh.put (fun e => hm' e.symm) (fun e => hm' e.symm)
theorem done2 (hN : N < 64) {w : World} {R B M : Nat} {ro pa la tu : Int} {l : List Pile} (hB : BX w R B M ro pa la tu l) (hH : Has l (mk p) ((List.range N).map (pc p Q N))) (now : Int) (hn1 : la ≤ now) (hn2 : now ≤ 1099511627776) :
    Calls Try.prog 13 #[.pointer (some ⟨B, 0, none⟩), .agg #[.int .i64 (pc p Q N N).f, .int .i64 (pc p Q N N).t, .int .i64 (pc p Q N N).tl, .int .i64 (pc p Q N N).pr, .int .i64 (pc p Q N N).id, .int .i64 (pc p Q N N).fr, .bool (pc p Q N N).mo, .bool (pc p Q N N).dn, .string (pc p Q N N).op, .string (pc p Q N N).da], .int .i64 now] w fun e w' => e = .returned (.tuple #[.agg #[.int .i64 p.f, .int .i64 p.t, .int .i64 p.tl, .int .i64 p.pr, .int .i64 p.id, .int .i64 p.fr, .bool p.mo, .bool p.dn, .string p.op, .string p.da], .bool true, .int .i64 0]) ∧ DoneB w w' R B M ro pa now tu l (mk p) (decide (N = 0)) := by
  have hS : (List.range N).Pairwise (· < ·) := List.pairwise_lt_range
  have hn : N ∉ List.range N := fun e => by have := List.mem_range.1 e; omega
  have hSN : ∀ s ∈ List.range N, s ≤ N := fun s hs => by have := List.mem_range.1 hs; omega
  have hN1 := h.n1
  have key : ∀ i, Cutp ((List.range N).map (pc p Q N)) (pc p Q N N).fr i i → completeB (insL ((List.range N).map (pc p Q N)) i (pc p Q N N)) = true ∧ (insL ((List.range N).map (pc p Q N)) i (pc p Q N N))[0]? = some (pc p Q N 0) ∧ catL (insL ((List.range N).map (pc p Q N)) i (pc p Q N N)) = p.da.data.toList := fun i hc => by
    rw [ins_map]
    exact all_done h (range_ins (i := i) (insN_rise h hS hn hc) (fun y => insN_mem))
  have hne : (List.range N).map (pc p Q N) ≠ [] := fun e => by
    rw [List.map_eq_nil_iff] at e
    have := congrArg List.length e
    simp at this
    omega
  rcases hH with ⟨e, -⟩ | ⟨-, x, hx, hxm, hxp⟩
  · exact absurd e hne
  obtain ⟨a, b, rfl⟩ := List.append_of_mem hx
  obtain ⟨m, at_, tx, v, ps⟩ := x
  simp only at hxm hxp
  subst hxm hxp
  clear hx
  have hf := fits_pc h (Nat.le_refl N) hSN hn (by rw [List.length_range]; omega)
  have hh : ((List.range N).map (pc p Q N)).any (hasB (pc p Q N N)) = false := by rw [any_has h]; exact decide_eq_false hn
  have hgo := Has.gone hB
  rw [← pc_mk h N] at hB
  have hcon := take_yes (pc p Q N N) (pc_may h (Nat.le_refl _)) w R B M ro pa la tu _ hB now hn1 hn2 (pc p Q N 0) p.da.data.toList (pc_part h (Nat.le_refl _)) _ (fun W hW => lay_whole (pc p Q N N) (may_fine (pc_may h (Nat.le_refl _))) (may_wf (pc_may h (Nat.le_refl _))) W R B M ro pa now tu a b at_ tx v _ hW hne (pc p Q N 0) p.da.data.toList hh hf (fun i _ hc => key i hc)) (fun W W' _ h => h.2)
  obtain ⟨e1, e2, e3, e4, e5, e6, e7⟩ := pc_head h 0
  have e8 : (pc p Q N 0).fr = 0 := by have := pc_fr h 0; rw [Nat.zero_mul] at this; omega
  rw [e1, e2, e3, e4, e5, e6, e7, e8] at hcon
  refine hcon.mono ?_
  rintro e w' ⟨rfl, hT⟩
  obtain ⟨⟨L, hL, hB', hLo⟩, ht⟩ := tp_fin2 (tu' := tu) (P := fun L => L = a ++ b) hB hT (fun W W' _ hφ => ⟨hφ.2, _, rfl, hφ.1, fun y hy j hj => by
    rcases List.mem_append.1 hy with hy | hy
    · exact Or.inl ⟨y, List.mem_append_left _ hy, hj⟩
    · exact Or.inl ⟨y, List.mem_append_right _ (List.mem_cons_of_mem _ hy), hj⟩⟩)
  subst hL
  rw [pc_mk h] at hLo ht
  refine ⟨by rw [h.fr0, h.mo], ⟨_, hB', hgo, by simp [show N ≠ 0 by omega]; omega, fun m' qs hm' hh => ?_, hLo⟩, ht⟩
  exact hh.del (fun e => hm' e.symm)
end
/-- What Take answers to the pieces of p, in order. -/
structure PY (p : Pk) (g : Nat → Pk) (N : Nat) : Prop where
  more : ∀ {k : Nat}, k < N → ∀ {w : World} {R B M : Nat} {ro pa la tu : Int} {l : List Pile}, BX w R B M ro pa la tu l → Has l (mk p) ((List.range k).map g) → (l.length : Int) < ro → ro ≤ 64 → 0 ≤ tu → tu ≤ 100000 → ∀ now : Int, la ≤ now → now ≤ 1099511627776 → Calls Try.prog 13 #[.pointer (some ⟨B, 0, none⟩), .agg #[.int .i64 (g k).f, .int .i64 (g k).t, .int .i64 (g k).tl, .int .i64 (g k).pr, .int .i64 (g k).id, .int .i64 (g k).fr, .bool (g k).mo, .bool (g k).dn, .string (g k).op, .string (g k).da], .int .i64 now] w fun e w' => e = .returned (.tuple #[.agg #[.int .i64 0, .int .i64 0, .int .i64 0, .int .i64 0, .int .i64 0, .int .i64 0, .bool false, .bool false, .string ⟨#[]⟩, .string ⟨#[]⟩], .bool false, .int .i64 0]) ∧ MoreB w w' R B M ro pa now tu l (mk p) ((List.range (k + 1)).map g) (decide (k = 0))
  done : ∀ {w : World} {R B M : Nat} {ro pa la tu : Int} {l : List Pile}, BX w R B M ro pa la tu l → Has l (mk p) ((List.range N).map g) → ∀ now : Int, la ≤ now → now ≤ 1099511627776 → Calls Try.prog 13 #[.pointer (some ⟨B, 0, none⟩), .agg #[.int .i64 (g N).f, .int .i64 (g N).t, .int .i64 (g N).tl, .int .i64 (g N).pr, .int .i64 (g N).id, .int .i64 (g N).fr, .bool (g N).mo, .bool (g N).dn, .string (g N).op, .string (g N).da], .int .i64 now] w fun e w' => e = .returned (.tuple #[.agg #[.int .i64 p.f, .int .i64 p.t, .int .i64 p.tl, .int .i64 p.pr, .int .i64 p.id, .int .i64 p.fr, .bool p.mo, .bool p.dn, .string p.op, .string p.da], .bool true, .int .i64 0]) ∧ DoneB w w' R B M ro pa now tu l (mk p) (decide (N = 0))
theorem py_cut {p : Pk} {Q N : Nat} (h : Cx p Q N) (hN : N < 64) : PY p (pc p Q N) N :=
  ⟨fun hk _ _ _ _ _ _ _ _ _ hB hH a1 a2 a3 a4 now h1 h2 => more2 h hk hN hB hH a1 a2 a3 a4 now h1 h2, fun hB hH now h1 h2 => done2 h hN hB hH now h1 h2⟩
theorem py_one {p : Pk} (hm : p.may = true) (hf : p.fr = 0) (hmo : p.mo = false) : PY p (fun _ => p) 0 := by
  have hw : wholeB p.fr p.mo = true := by unfold wholeB; rw [hf, hmo]; rfl
  refine ⟨fun hk => absurd hk (Nat.not_lt_zero _), ?_⟩
  intro w R B M ro pa la tu l hB hH now h1 h2
  refine (takeW p hm w R B M ro pa la tu l hB now h1 h2 hw).mono ?_
  rintro e w' ⟨rfl, hT⟩
  obtain ⟨⟨L, hL, hB', hLo⟩, ht⟩ := tp_fin2 (tu' := tu) (P := fun L => L = l) hB hT (fun W W' hW hφ => by
    subst hφ
    exact ⟨Turn.refl _, l, rfl, hW, fun y hy k hk => Or.inl ⟨y, hy, hk⟩⟩)
  subst hL
  exact ⟨rfl, ⟨_, hB', hH, by simp, fun _ _ _ h => h, hLo⟩, ht⟩
end Go.Proofs.Ytcjhniehbafhpaa
