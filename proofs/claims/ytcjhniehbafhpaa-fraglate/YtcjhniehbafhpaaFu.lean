/- Take of the pieces of one packet. -/
import Derived.Test.YtcjhniehbafhpaaFt
namespace Go.Proofs.Ytcjhniehbafhpaa
open Go.RowKit Go.Maps
set_option maxRecDepth 100000
set_option linter.unusedVariables false
set_option linter.unusedSimpArgs false

def FB (R B M k : Nat) : Prop := k = B ∨ k = M ∨ R ≤ k
/-- The box has nothing but these pieces of one packet, or nothing. -/
def OneB (w : World) (R B M : Nat) (ro pa la tu : Int) (m : Mk) (ps : List Pk) : Prop := (ps = [] ∧ BX w R B M ro pa la tu []) ∨ (ps ≠ [] ∧ ∃ at_ tx v, BX w R B M ro pa la tu [⟨m, at_, tx, v, ps⟩])
theorem OneB.later {w w' : World} {R B M : Nat} {ro pa la tu : Int} {m : Mk} {ps : List Pk} (h : OneB w R B M ro pa la tu m ps) (hb : Below w.heap.size w w') : OneB w' R B M ro pa la tu m ps := by
  rcases h with ⟨h1, h2⟩ | ⟨h1, a, b, c, h2⟩
  · exact Or.inl ⟨h1, h2.later hb⟩
  · exact Or.inr ⟨h1, a, b, c, h2.later hb⟩
theorem OneB.turn {S : Nat → Prop} {w w' : World} {R B M : Nat} {ro pa la tu : Int} {m : Mk} {ps : List Pk} (h : OneB w R B M ro pa la tu m ps) (ht : Turn S w w') (hB : ¬ S B) (hM : ¬ S M) (hS : ∀ k, R ≤ k → ¬ S k) : OneB w' R B M ro pa la tu m ps := by
  rcases h with ⟨h1, h2⟩ | ⟨h1, a, b, c, h2⟩
  · exact Or.inl ⟨h1, h2.turn ht hB hM (fun x hx => by cases hx)⟩
  · exact Or.inr ⟨h1, a, b, c, h2.turn ht hB hM (fun x hx k hk => hS k ((h2.ok x hx).row.ge k hk))⟩
theorem fl_fb {R B M : Nat} {w : World} {ro pa la tu : Int} {l : List Pile} (h : BX w R B M ro pa la tu l) (k : Nat) (hk : FL B M l k) : FB R B M k := by
  rcases hk with hk | hk | ⟨x, hx, hk⟩
  · exact Or.inl hk
  · exact Or.inr (Or.inl hk)
  · exact Or.inr (Or.inr ((h.ok x hx).row.ge k hk))
/-- What Take leaves where lay left the box with L. -/
theorem tp_fin {P : List Pile → Prop} {w w' : World} {R B M : Nat} {ro pa la now tu tu' : Int} {l : List Pile} (hBX : BX w R B M ro pa la tu l) {Φ : World → World → Prop} (h : TP w w' R B M ro pa now tu l Φ) (hΦ : ∀ W W', BX W R B M ro pa now tu l → Φ W W' → Turn (FL B M l) W W' ∧ ∃ L, P L ∧ BX W' R B M ro pa now tu' L ∧ ∀ y ∈ L, ∀ k, y.v.ownBlock = some k → (∃ x ∈ l, x.v.ownBlock = some k) ∨ W.heap.size ≤ k) : (∃ L, P L ∧ BX w' R B M ro pa now tu' L) ∧ Turn (FB R B M) w w' := by
  obtain ⟨W, W', hW, ht1, hs, hφ, ht2⟩ := h
  obtain ⟨ht, L, hL, hB, hloc⟩ := hΦ W W' hW hφ
  have hRw := hBX.rw'
  have hbR := hBX.bR
  have hmR := hBX.mR
  refine ⟨⟨L, hL, hB.turn ht2 (by omega) (by omega) (fun y hy k hk e => ?_)⟩, ?_⟩
  · rcases hloc y hy k hk with ⟨x, hx, h⟩ | h
    · have := (hBX.ok x hx).row.lt k h; omega
    · omega
  · exact ((ht1.mono (S' := FB R B M) (fun k e => Or.inl e)).trans (ht.mono (fun k e => fl_fb hW k e))).step ht2 (fun k e => Or.inr (by omega))
section
variable {p : Pk} {Q N : Nat} (h : Cx p Q N)
include h
theorem piece_has {S : List Nat} {k : Nat} (hk : k ≤ N) (hin : k ∈ S) {w : World} {R B M : Nat} {ro pa la tu : Int} (hO : OneB w R B M ro pa la tu (mk p) (S.map (pc p Q N))) (now : Int) (hn1 : la ≤ now) (hn2 : now ≤ 1099511627776) :
    Calls Try.prog 13 #[.pointer (some ⟨B, 0, none⟩), .agg #[.int .i64 (pc p Q N k).f, .int .i64 (pc p Q N k).t, .int .i64 (pc p Q N k).tl, .int .i64 (pc p Q N k).pr, .int .i64 (pc p Q N k).id, .int .i64 (pc p Q N k).fr, .bool (pc p Q N k).mo, .bool (pc p Q N k).dn, .string (pc p Q N k).op, .string (pc p Q N k).da], .int .i64 now] w fun e w' => e = .returned (.tuple #[.agg #[.int .i64 0, .int .i64 0, .int .i64 0, .int .i64 0, .int .i64 0, .int .i64 0, .bool false, .bool false, .string ⟨#[]⟩, .string ⟨#[]⟩], .bool false, .int .i64 0]) ∧ OneB w' R B M ro pa now tu (mk p) (S.map (pc p Q N)) ∧ Turn (FB R B M) w w' := by
  have hne : S.map (pc p Q N) ≠ [] := fun e => by rw [List.map_eq_nil_iff] at e; rw [e] at hin; cases hin
  rcases hO with ⟨e, -⟩ | ⟨-, at_, tx, v, hB⟩
  · exact absurd e hne
  rw [← pc_mk h k] at hB ⊢
  refine (take_no (pc p Q N k) (pc_may h hk) w R B M ro pa la tu _ hB now hn1 hn2 (pc_part h hk) _ (fun W hW => lay_has (pc p Q N k) (may_fine (pc_may h hk)) (may_wf (pc_may h hk)) W R B M ro pa now tu [] [] at_ tx v _ hW hne (by rw [any_has h]; exact decide_eq_true hin)) (fun W W' _ h => h.2)).mono ?_
  rintro e w' ⟨rfl, hT⟩
  obtain ⟨⟨L, hL, hB'⟩, ht⟩ := tp_fin (P := fun L => L = [⟨mk (pc p Q N k), at_, tx, v, S.map (pc p Q N)⟩]) hB hT (fun W W' _ hφ => ⟨hφ.2, _, rfl, hφ.1, fun y hy j hj => Or.inl ⟨y, hy, hj⟩⟩)
  subst hL
  exact ⟨rfl, Or.inr ⟨hne, at_, tx, v, hB'⟩, ht⟩
theorem piece_more {S : List Nat} {k x : Nat} (hk : k ≤ N) (hn : k ∉ S) (hx : x ≤ N) (hxk : x ≠ k) (hxS : x ∉ S) (hS : S.Pairwise (· < ·)) (hSN : ∀ s ∈ S, s ≤ N) (hl : S.length < 64) {w : World} {R B M : Nat} {ro pa la tu : Int} (hO : OneB w R B M ro pa la tu (mk p) (S.map (pc p Q N))) (hro : 1 ≤ ro) (hro2 : ro ≤ 64) (htu0 : 0 ≤ tu) (htu1 : tu ≤ 100000) (now : Int) (hn1 : la ≤ now) (hn2 : now ≤ 1099511627776) :
    Calls Try.prog 13 #[.pointer (some ⟨B, 0, none⟩), .agg #[.int .i64 (pc p Q N k).f, .int .i64 (pc p Q N k).t, .int .i64 (pc p Q N k).tl, .int .i64 (pc p Q N k).pr, .int .i64 (pc p Q N k).id, .int .i64 (pc p Q N k).fr, .bool (pc p Q N k).mo, .bool (pc p Q N k).dn, .string (pc p Q N k).op, .string (pc p Q N k).da], .int .i64 now] w fun e w' => e = .returned (.tuple #[.agg #[.int .i64 0, .int .i64 0, .int .i64 0, .int .i64 0, .int .i64 0, .int .i64 0, .bool false, .bool false, .string ⟨#[]⟩, .string ⟨#[]⟩], .bool false, .int .i64 0]) ∧ (∃ (T : List Nat) (tu' : Int), T.Pairwise (· < ·) ∧ (∀ y, y ∈ T ↔ y = k ∨ y ∈ S) ∧ (tu' = tu ∨ tu' = tu + 1) ∧ OneB w' R B M ro pa now tu' (mk p) (T.map (pc p Q N))) ∧ Turn (FB R B M) w w' := by
  have key : ∀ i, Cutp (S.map (pc p Q N)) (pc p Q N k).fr i i → completeB (insL (S.map (pc p Q N)) i (pc p Q N k)) = false := fun i hc => by
    rw [ins_map]
    exact not_all h (insN_rise h hS hn hc) (fun t ht => (insN_mem.1 ht).elim (fun e => by omega) (fun e => hSN t e)) hx (fun e => (insN_mem.1 e).elim (fun e => hxk e) (fun e => hxS e))
  rcases hO with ⟨e, hB⟩ | ⟨hne, at_, tx, v, hB⟩
  · rw [List.map_eq_nil_iff] at e
    subst e
    have hf := fits_pc h hk hSN hn (by decide)
    have hc0 : completeB [pc p Q N k] = false := key 0 ⟨fun t q hq => by simp at hq, fun t q hq => by simp at hq⟩
    refine (take_no (pc p Q N k) (pc_may h hk) w R B M ro pa la tu _ hB now hn1 hn2 (pc_part h hk) _ (fun W hW => lay_new (pc p Q N k) (may_fine (pc_may h hk)) (may_wf (pc_may h hk)) W R B M ro pa now tu [] hW (by simp) (by simp; omega) hro2 htu0 (by omega) hf hc0) (fun W W' _ h => by obtain ⟨_, _, _, _, _, h, _⟩ := h; exact h)).mono ?_
    rintro e w' ⟨rfl, hT⟩
    obtain ⟨⟨L, ⟨v', hL⟩, hB'⟩, ht⟩ := tp_fin (tu' := tu + 1) (P := fun L => ∃ v', L = [⟨mk (pc p Q N k), now, tu + 1, v', [pc p Q N k]⟩]) hB hT (fun W W' _ hφ => by
      obtain ⟨v', i, hi, hcut, hb, htt, hlo⟩ := hφ
      obtain rfl : i = 0 := by simpa using hi
      exact ⟨htt, _, ⟨v', rfl⟩, hb, fun y hy j hj => by simp at hy; rw [hy] at hj; exact hlo j hj⟩)
    subst hL
    rw [pc_mk h] at hB'
    exact ⟨rfl, ⟨[k], tu + 1, List.pairwise_singleton _ _, fun y => by simp, Or.inr rfl, Or.inr ⟨by simp, now, tu + 1, v', hB'⟩⟩, ht⟩
  · have hf := fits_pc h hk hSN hn hl
    have hh : (S.map (pc p Q N)).any (hasB (pc p Q N k)) = false := by rw [any_has h]; exact decide_eq_false hn
    rw [← pc_mk h k] at hB
    refine (take_no (pc p Q N k) (pc_may h hk) w R B M ro pa la tu _ hB now hn1 hn2 (pc_part h hk) _ (fun W hW => lay_more (pc p Q N k) (may_fine (pc_may h hk)) (may_wf (pc_may h hk)) W R B M ro pa now tu [] [] at_ tx v _ hW hne (by simp) hh hf (fun i _ hc => key i hc)) (fun W W' _ h => by obtain ⟨_, _, _, _, _, h, _⟩ := h; exact h)).mono ?_
    rintro e w' ⟨rfl, hT⟩
    obtain ⟨⟨L, ⟨v', i, hcut, hL⟩, hB'⟩, ht⟩ := tp_fin (tu' := tu) (P := fun L => ∃ v' i, Cutp (S.map (pc p Q N)) (pc p Q N k).fr i i ∧ L = [⟨mk (pc p Q N k), at_, tx, v', insL (S.map (pc p Q N)) i (pc p Q N k)⟩]) hB hT (fun W W' _ hφ => by
      obtain ⟨v', i, hi, hcut, hb, htt, hlo⟩ := hφ
      exact ⟨htt, _, ⟨v', i, hcut, rfl⟩, hb, fun y hy j hj => by simp at hy; rw [hy] at hj; exact hlo j hj⟩)
    subst hL
    rw [pc_mk h, ins_map] at hB'
    refine ⟨rfl, ⟨insN S i k, tu, insN_rise h hS hn hcut, fun y => insN_mem, Or.inl rfl, Or.inr ⟨?_, at_, tx, v', hB'⟩⟩, ht⟩
    intro e
    rw [List.map_eq_nil_iff] at e
    have := (insN_mem (S := S) (i := i) (k := k) (x := k)).2 (Or.inl rfl)
    rw [e] at this
    cases this
theorem piece_last {S : List Nat} {k : Nat} (hk : k ≤ N) (hn : k ∉ S) (hall : ∀ x, x ≤ N → x ≠ k → x ∈ S) (hS : S.Pairwise (· < ·)) (hSN : ∀ s ∈ S, s ≤ N) (hl : S.length < 64) {w : World} {R B M : Nat} {ro pa la tu : Int} (hO : OneB w R B M ro pa la tu (mk p) (S.map (pc p Q N))) (now : Int) (hn1 : la ≤ now) (hn2 : now ≤ 1099511627776) :
    Calls Try.prog 13 #[.pointer (some ⟨B, 0, none⟩), .agg #[.int .i64 (pc p Q N k).f, .int .i64 (pc p Q N k).t, .int .i64 (pc p Q N k).tl, .int .i64 (pc p Q N k).pr, .int .i64 (pc p Q N k).id, .int .i64 (pc p Q N k).fr, .bool (pc p Q N k).mo, .bool (pc p Q N k).dn, .string (pc p Q N k).op, .string (pc p Q N k).da], .int .i64 now] w fun e w' => e = .returned (.tuple #[.agg #[.int .i64 p.f, .int .i64 p.t, .int .i64 p.tl, .int .i64 p.pr, .int .i64 p.id, .int .i64 p.fr, .bool p.mo, .bool p.dn, .string p.op, .string p.da], .bool true, .int .i64 0]) ∧ OneB w' R B M ro pa now tu (mk p) [] ∧ Turn (FB R B M) w w' := by
  have key : ∀ i, Cutp (S.map (pc p Q N)) (pc p Q N k).fr i i → completeB (insL (S.map (pc p Q N)) i (pc p Q N k)) = true ∧ (insL (S.map (pc p Q N)) i (pc p Q N k))[0]? = some (pc p Q N 0) ∧ catL (insL (S.map (pc p Q N)) i (pc p Q N k)) = p.da.data.toList := fun i hc => by
    rw [ins_map]
    refine all_done h ?_
    rw [List.range_eq_range']
    exact all_range _ 0 (insN_rise h hS hn hc) (fun t ht => ⟨Nat.zero_le _, (insN_mem.1 ht).elim (fun e => by omega) (fun e => hSN t e)⟩) (fun x _ hx => insN_mem.2 (if e : x = k then Or.inl e else Or.inr (hall x hx e)))
  have hne : S.map (pc p Q N) ≠ [] := fun e => by
    rw [List.map_eq_nil_iff] at e
    have h1 := h.n1
    have : ∃ x, x ≤ N ∧ x ≠ k := by
      by_cases e : k = 0
      · exact ⟨1, h1, by omega⟩
      · exact ⟨0, Nat.zero_le _, by omega⟩
    obtain ⟨x, hx, hxk⟩ := this
    have := hall x hx hxk
    rw [e] at this
    cases this
  rcases hO with ⟨e, -⟩ | ⟨-, at_, tx, v, hB⟩
  · exact absurd e hne
  have hf := fits_pc h hk hSN hn hl
  have hh : (S.map (pc p Q N)).any (hasB (pc p Q N k)) = false := by rw [any_has h]; exact decide_eq_false hn
  rw [← pc_mk h k] at hB
  have hcon := take_yes (pc p Q N k) (pc_may h hk) w R B M ro pa la tu _ hB now hn1 hn2 (pc p Q N 0) p.da.data.toList (pc_part h hk) _ (fun W hW => lay_whole (pc p Q N k) (may_fine (pc_may h hk)) (may_wf (pc_may h hk)) W R B M ro pa now tu [] [] at_ tx v _ hW hne (pc p Q N 0) p.da.data.toList hh hf (fun i _ hc => key i hc)) (fun W W' _ h => h.2)
  obtain ⟨e1, e2, e3, e4, e5, e6, e7⟩ := pc_head h 0
  have e8 : (pc p Q N 0).fr = 0 := by have := pc_fr h 0; rw [Nat.zero_mul] at this; omega
  rw [e1, e2, e3, e4, e5, e6, e7, e8] at hcon
  refine hcon.mono ?_
  rintro e w' ⟨rfl, hT⟩
  obtain ⟨⟨L, hL, hB'⟩, ht⟩ := tp_fin (P := fun L => L = []) hB hT (fun W W' _ hφ => ⟨hφ.2, _, rfl, hφ.1, fun y hy => by cases hy⟩)
  subst hL
  exact ⟨by rw [h.fr0, h.mo], Or.inl ⟨rfl, hB'⟩, ht⟩
end
end Go.Proofs.Ytcjhniehbafhpaa
