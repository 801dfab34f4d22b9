/- The state of the loop of NeighOnce; Send in it. -/
import Derived.Test.YtjldcillackhdaaNp
import Derived.Test.YtjldcillackhdaaNi
namespace Go.Proofs.Ytjldcillackhdaa
open Go.RowKit Go.Maps Go.Proofs.Ytjldcillackhdaa.Eth Go.Proofs.Ytjldcillackhdaa.Eth.Arp
set_option maxRecDepth 100000
set_option linter.unusedVariables false
set_option linter.unusedSimpArgs false

theorem OI.apart {w : World} {b1 b2 : Nat} {v u : Value} {zs : List Int} {pt : Int} {ids : List Int} (h : OI w b1 v zs) (k : PR w b2 u pt ids) {j : Nat} (hj : v.ownBlock = some j) (hu : u.ownBlock = some j) : False := by
  rcases h with ⟨rfl, -⟩ | ⟨g, off, cap, cur, rfl, hg, hb, -⟩
  · simp [Value.ownBlock] at hj
  · rcases k.2 with ⟨rfl, -⟩ | ⟨g', cap', cur', rfl, hg', hb', -⟩
    · simp [Value.ownBlock] at hu
    · simp [Value.ownBlock] at hj hu
      subst hj
      subst hu
      rw [hb] at hb'
      injection hb' with h1
      injection h1 with h2 h3
      cases h3
theorem PR.apart {w : World} {b1 b2 : Nat} {v u : Value} {k1 k2 : Int} {i1 i2 : List Int} (h : PR w b1 v k1 i1) (k : PR w b2 u k2 i2) (n1 : i1 ≠ []) (n2 : i2 ≠ []) (hk : k1 ≠ k2) {j : Nat} (hj : v.ownBlock = some j) (hu : u.ownBlock = some j) : False := by
  obtain ⟨id1, r1, rfl⟩ := List.exists_cons_of_ne_nil n1
  obtain ⟨id2, r2, rfl⟩ := List.exists_cons_of_ne_nil n2
  obtain ⟨g1, c1, rfl, -, h1⟩ := h.cells (i := 0) (e := id1) rfl
  obtain ⟨g2, c2, rfl, -, h2⟩ := k.cells (i := 0) (e := id2) rfl
  simp [Value.ownBlock] at hj hu
  subst hj
  subst hu
  have e1 := h1 1 _ rfl
  have e2 := h2 1 _ rfl
  rw [e1] at e2
  injection e2 with e2
  injection e2 with e3 e4
  exact hk e4
/-- Where the blocks lie. -/
structure KC (n0 C M A g TM WM bw : Nat) : Prop where
  low : n0 ≤ C ∧ n0 ≤ M ∧ n0 ≤ A
  ne : C ≠ A ∧ C ≠ M ∧ M ≠ A ∧ g ≠ A ∧ g ≠ C ∧ g ≠ M
  lt : C < TM ∧ M < TM ∧ A < TM ∧ g < TM ∧ TM < WM ∧ WM < bw
/-- What lies in memory. -/
structure OW (w : World) (C M A g c TM WM bw : Nat) (la wt : Int) (gk : Int → Option (Int × Int)) (ga : Ga) (gi wi : Int → List Int) (tf : Int → Option Int) (wf : Int → Option Value) : Prop where
  hC : At w C (cV 2 50 4 9 30 (.slice (some ⟨g, 0, none⟩) 1 c) la M A wt)
  hO : Ints w 0 (.slice (some ⟨g, 0, none⟩) 1 c) [10]
  hM : KM w M gk
  hA : AM w A ga
  hT : ∃ tl, VM w TM tl ∧ ∀ k, vlk tl k = (tf k).map (Value.int .i64)
  hW : ∃ wl, VM w WM wl ∧ ∀ k, vlk wl k = wf k
  hI : ∀ k, OI w bw ((wf k).getD (.slice none 0 0)) (wi k)
  hd : ∀ k k', k ≠ k' → ∀ b, ((wf k).getD (.slice none 0 0)).ownBlock = some b → ((wf k').getD (.slice none 0 0)).ownBlock ≠ some b
  hR : ∀ k p, ga k = some p → PR w bw (.slice p.2.2.1 p.2.2.2.1 p.2.2.2.2) k (gi k)
  hs : bw ≤ w.heap.size
theorem OW.later {w w' : World} {C M A g c TM WM bw : Nat} {la wt : Int} {gk : Int → Option (Int × Int)} {ga : Ga} {gi wi : Int → List Int} {tf : Int → Option Int} {wf : Int → Option Value} (h : OW w C M A g c TM WM bw la wt gk ga gi wi tf wf) (hb : Below w.heap.size w w') : OW w' C M A g c TM WM bw la wt gk ga gi wi tf wf := by
  obtain ⟨a1, a2, a3, a4, ⟨tl, b1, b2⟩, ⟨wl, c1, c2⟩, a5, a6, a7, a8⟩ := h
  exact ⟨a1.later hb, a2.later hb, a3.later hb, a4.later hb, ⟨tl, b1.later hb, b2⟩, ⟨wl, c1.later hb, c2⟩, fun k => (a5 k).later hb, a6, fun k p hp => (a7 k p hp).later hb, Nat.le_trans a8 hb.size⟩
/-- The plain facts. -/
structure OP (la wt : Int) (gk : Int → Option (Int × Int)) (ga : Ga) (gi : Int → List Int) : Prop where
  ok : okT gk
  kk : ∀ k, (gk k).isSome = true → 11 ≤ k ∧ k < 11 + (4 : Nat)
  qa : ∀ k p, ga k = some p → gi k ≠ [] ∧ p.2.2.2.1 = (gi k).length ∧ 0 ≤ p.1 ∧ p.1 ≤ la
  qn : ∀ k, ga k = none → gi k = []
  ky : ∀ k, gi k ≠ [] → 11 ≤ k ∧ k < 15
  sm : wt = ((gi 11).length + (gi 12).length + (gi 13).length + (gi 14).length : Nat)
  le : wt ≤ 30
  l0 : 0 ≤ la ∧ la ≤ 200
theorem OP.len {la wt : Int} {gk : Int → Option (Int × Int)} {ga : Ga} {gi : Int → List Int} (h : OP la wt gk ga gi) (k : Int) : ((gi k).length : Int) ≤ wt := by
  by_cases e : gi k = []
  · rw [e, h.sm]; simp; omega
  · have h1 := h.ky k e
    have h2 := h.sm
    have h3 : k = 11 ∨ k = 12 ∨ k = 13 ∨ k = 14 := by omega
    rcases h3 with rfl | rfl | rfl | rfl <;> omega
theorem OP.keys {la wt : Int} {gk : Int → Option (Int × Int)} {ga : Ga} {gi : Int → List Int} (h : OP la wt gk ga gi) : ∀ k, (ga k).isSome = true → 0 ≤ k ∧ k < 0 + (5000 : Nat) := fun k hk => by
  obtain ⟨p, hp⟩ := Option.isSome_iff_exists.1 hk
  have := h.ky k (h.qa k p hp).1
  omega
theorem OP.on {la wt now : Int} {gk : Int → Option (Int × Int)} {ga : Ga} {gi : Int → List Int} (h : OP la wt gk ga gi) (hn : la ≤ now ∧ now ≤ 200) : OP now wt gk ga gi :=
  ⟨h.ok, h.kk, fun k p hp => by have := h.qa k p hp; exact ⟨this.1, this.2.1, this.2.2.1, by omega⟩, h.qn, h.ky, h.sm, h.le, by have := h.l0; omega⟩
def addG (gi : Int → List Int) (pt id : Int) : Int → List Int := fun k => if k = pt then gi pt ++ [id] else gi k
theorem OP.add {la wt now : Int} {gk : Int → Option (Int × Int)} {ga ga' : Ga} {gi : Int → List Int} (h : OP la wt gk ga gi) (hn : la ≤ now ∧ now ≤ 200) {pt id : Int} (hpt : 11 ≤ pt ∧ pt < 15) (hroom : wt < 30) {q : Int × Bool × Sl} (hq : q.2.2.2.1 = (gi pt).length + 1 ∧ 0 ≤ q.1 ∧ q.1 ≤ now) (hga : ga' = fun k => if k = pt then some q else ga k) : OP now (wt + 1) gk ga' (addG gi pt id) := by
  refine ⟨h.ok, h.kk, ?_, ?_, ?_, ?_, by omega, by have := h.l0; omega⟩
  · intro k p hp
    subst hga
    unfold addG
    by_cases e : k = pt
    · simp only [e, if_true, Option.some.injEq] at hp ⊢
      subst hp
      exact ⟨by simp, by simpa using hq.1, hq.2⟩
    · simp only [e, if_false] at hp ⊢
      have := h.qa k p hp
      exact ⟨this.1, this.2.1, this.2.2.1, by omega⟩
  · intro k hk
    subst hga
    unfold addG
    by_cases e : k = pt
    · simp [e] at hk
    · simp only [e, if_false] at hk ⊢
      exact h.qn k hk
  · intro k hk
    unfold addG at hk
    by_cases e : k = pt
    · omega
    · simp only [e, if_false] at hk
      exact h.ky k hk
  · have h2 := h.sm
    have h3 : pt = 11 ∨ pt = 12 ∨ pt = 13 ∨ pt = 14 := by omega
    unfold addG
    rcases h3 with rfl | rfl | rfl | rfl <;> simp <;> omega
theorem may_q {pt : Int} (h : 0 ≤ pt ∧ pt < 5000) : mayA 1 2 10 0 pt = true := decide_eq_true (by refine ⟨Or.inl rfl, by omega, by omega, by omega, by omega, by omega⟩)
set_option maxHeartbeats 2000000 in
theorem send_once {n0 C M A g c TM WM bw : Nat} (K : KC n0 C M A g TM WM bw) {w : World} {la wt : Int} {gk : Int → Option (Int × Int)} {ga : Ga} {gi wi : Int → List Int} {tf : Int → Option Int} {wf : Int → Option Value} (h : (OW w C M A g c TM WM bw la wt gk ga gi wi tf wf)) (p : OP la wt gk ga gi) (pt id now : Int) (hn : la ≤ now ∧ now ≤ 200) (hpt : 11 ≤ pt ∧ pt < 15) (hid : 0 ≤ id ∧ id < 60) :
    Calls Try.prog 9 #[.pointer (some ⟨C, 0, none⟩), .agg #[.int .i64 10, .int .i64 pt, .int .i64 9, .int .i64 0, .int .i64 id, .int .i64 0, .bool false, .bool false, .string ⟨#[]⟩, .string ⟨#[]⟩], .int .i64 pt, .int .i64 now] w fun e w' => Below n0 w w' ∧
      ((∃ mo t, gk pt = some (mo, t) ∧ now < t + 50 ∧ e = .returned (.tuple #[.int .i64 mo, .agg #[.int .i64 0, .int .i64 0, .int .i64 0, .int .i64 0, .int .i64 0], .int .i64 0]) ∧ (OW w' C M A g c TM WM bw now wt gk ga gi wi tf wf))
      ∨ (e = .returned (.tuple #[.int .i64 0, .agg #[.int .i64 0, .int .i64 0, .int .i64 0, .int .i64 0, .int .i64 0], .int .i64 150]) ∧ (OW w' C M A g c TM WM bw now wt gk ga gi wi tf wf))
      ∨ (gi pt = [] ∧ e = .returned (.tuple #[.int .i64 0, .agg #[.int .i64 1, .int .i64 2, .int .i64 10, .int .i64 0, .int .i64 pt], .int .i64 110]) ∧ ∃ ga', (OW w' C M A g c TM WM bw now (wt + 1) gk ga' (addG gi pt id) wi tf wf) ∧ OP now (wt + 1) gk ga' (addG gi pt id))
      ∨ (gi pt ≠ [] ∧ e = .returned (.tuple #[.int .i64 0, .agg #[.int .i64 0, .int .i64 0, .int .i64 0, .int .i64 0, .int .i64 0], .int .i64 110]) ∧ ∃ ga', (OW w' C M A g c TM WM bw now (wt + 1) gk ga' (addG gi pt id) wi tf wf) ∧ OP now (wt + 1) gk ga' (addG gi pt id))) := by
  obtain ⟨hC, hO, hM, hA, ⟨tl, hT, htl⟩, ⟨wl, hW, hwl⟩, hI, hd, hR, hs⟩ := h
  obtain ⟨⟨l1, l2, l3⟩, ⟨n1, n2, n3, n4, n5, n6⟩, m1, m2, m3, m4, m5, m6⟩ := K
  have p2 := p.l0
  have p3 := p.sm
  have p4 := p.le
  have hwt : 0 ≤ wt ∧ wt ≤ 5000 := by omega
  have htk : la ≤ now ∧ now ≤ 1099511627776 := by omega
  have hpt' : 0 ≤ pt ∧ pt ≤ 4294967295 := by omega
  have hid' : 0 ≤ id ∧ id ≤ 65535 := by omega
  have hge := fun k b hb => ((hI k).ge b hb)
  have fin : ∀ {w'}, Turn (fun k => k = A ∨ k = C) w w' → At w' C (cV 2 50 4 9 30 (.slice (some ⟨g, 0, none⟩) 1 c) now M A wt) → KM w' M gk → AM w' A ga → Below n0 w w' ∧ (OW w' C M A g c TM WM bw now wt gk ga gi wi tf wf) := by
    intro w' ht h1 h2 h3
    refine ⟨ht.below (by omega) (fun k hk he => by omega), ?_⟩
    exact ⟨h1, hO.turn ht (fun b hb he => by simp [Value.ownBlock] at hb; omega), h2, h3, ⟨tl, hT.turn ht (by omega), htl⟩, ⟨wl, hW.turn ht (by omega), hwl⟩, fun k => (hI k).turn ht (fun b hb he => by have := hge k b hb; omega), hd, fun k p hp => (hR k p hp).turn ht (fun b hb he => by have := (hR k p hp).ge b hb; omega), Nat.le_trans hs ht.size⟩
  have hlk : (∃ mo t, gk pt = some (mo, t) ∧ now < t + 50 ∧ lookF gk 50 pt now = (mo, true)) ∨ lookF gk 50 pt now = (0, false) := by
    cases hg : gk pt with
    | none => exact Or.inr (lookF_n hg)
    | some q =>
      obtain ⟨mo, t⟩ := q
      by_cases e : t + 50 ≤ now
      · exact Or.inr (lookF_f hg e)
      · exact Or.inl ⟨mo, t, by first | rfl | exact hg, by omega, lookF_t hg e⟩
  rcases hlk with ⟨mo, t, hg, ht, hl⟩ | hl
  · refine (send_known C M A g c 2 50 4 9 30 la wt 0 10 pt id now gk ga w hC hO hM hA n1 n2 n3 n4 n5 n6 p.ok (by decide) hpt' hid' htk hwt mo hl).mono ?_
    rintro e w' ⟨rfl, h1, h2, h3, h4⟩
    obtain ⟨f1, f2⟩ := fin h4 h1 h2 h3
    exact ⟨f1, Or.inl ⟨mo, t, hg, ht, rfl, f2⟩⟩
  · by_cases hroom : 30 ≤ wt
    · refine (send_full C M A g c 2 50 4 9 30 la wt 0 10 pt id now gk ga w hC hO hM hA n1 n2 n3 n4 n5 n6 p.ok (by decide) hpt' hid' htk hwt hl hroom).mono ?_
      rintro e w' ⟨rfl, h1, h2, h3, h4⟩
      obtain ⟨f1, f2⟩ := fin h4 h1 h2 h3
      exact ⟨f1, Or.inr (Or.inl ⟨rfl, f2⟩)⟩
    · have hroom' : wt < 30 := by omega
      cases hg : ga pt with
      | none =>
        have he := p.qn pt hg
        refine (send_new C M A g c 2 50 4 9 30 la wt 0 10 pt id now gk ga w hC hO hM hA n1 n2 n3 n4 n5 n6 p.ok (by decide) hpt' hid' htk hwt hl hroom' hg p.keys (may_q (by omega))).mono ?_
        rintro e w' ⟨a6, p6, rfl, h1, h2, h3, h4, ht⟩
        refine ⟨ht.below (by omega) (fun k hk he => by omega), Or.inr (Or.inr (Or.inl ⟨he, rfl, _, ⟨h1, hO.turn ht (fun b hb he => by simp [Value.ownBlock] at hb; omega), h2, h3, ⟨tl, hT.turn ht (by omega), htl⟩, ⟨wl, hW.turn ht (by omega), hwl⟩, fun k => (hI k).turn ht (fun b hb he => by have := hge k b hb; omega), hd, ?_, Nat.le_trans hs ht.size⟩, p.add hn hpt hroom' (q := (now, false, a6, 1, p6)) ⟨by simp [he], by omega, by simp⟩ rfl⟩))⟩
        intro k q hq
        by_cases e : k = pt
        · subst e
          simp only [if_true, Option.some.injEq] at hq
          subst hq
          have : addG gi k id k = [id] := by unfold addG; simp [he]
          rw [this]
          exact h4.low hs
        · simp only [e, if_false] at hq
          have : addG gi pt id k = gi k := by unfold addG; simp [e]
          rw [this]
          exact (hR k q hq).turn ht (fun b hb he => by have := (hR k q hq).ge b hb; omega)
      | some q =>
        obtain ⟨qa, qb, qp, qn, qc⟩ := q
        obtain ⟨hne, hqn, hq0, hq1⟩ := p.qa pt _ hg
        dsimp only at hqn hq0 hq1
        subst hqn
        have hrow := hR pt _ hg
        dsimp only at hrow
        have hln := p.len pt
        refine (send_old C M A g c 2 50 4 9 30 la wt 0 10 pt id now gk ga w hC hO hM hA n1 n2 n3 n4 n5 n6 p.ok (by decide) hpt' hid' htk hwt hl hroom' p.keys qa qb qp qc (gi pt) bw hne (by omega) hg hrow hs (fun hb => by have := hrow.ge g hb; omega) (fun b hb => by have := hrow.ge b hb; omega)).mono ?_
        rintro e w' ⟨a6, p6, rfl, h1, h2, h3, h4, ht⟩
        have hap : ∀ k b, ((wf k).getD (.slice none 0 0)).ownBlock = some b → (Value.slice qp (gi pt).length qc).ownBlock ≠ some b := fun k b hb hb2 => OI.apart (hI k) hrow hb hb2
        refine ⟨ht.below (by omega) (fun k hk he => by rcases he with (he | he) | he; omega; omega; have := hrow.ge k he; omega), Or.inr (Or.inr (Or.inr ⟨hne, rfl, _, ⟨h1, hO.turn ht (fun b hb he => by simp [Value.ownBlock] at hb; rcases he with (he | he) | he; omega; omega; have := hrow.ge b he; omega), h2, h3, ⟨tl, hT.turn ht (fun he => by rcases he with (he | he) | he; omega; omega; have := hrow.ge _ he; omega), htl⟩, ⟨wl, hW.turn ht (fun he => by rcases he with (he | he) | he; omega; omega; have := hrow.ge _ he; omega), hwl⟩, fun k => (hI k).turn ht (fun b hb he => by have := hge k b hb; rcases he with (he | he) | he; omega; omega; exact hap k b hb he), hd, ?_, Nat.le_trans hs ht.size⟩, p.add hn hpt hroom' (q := (qa, qb, a6, (gi pt).length + 1, p6)) ⟨rfl, hq0, by simp; omega⟩ rfl⟩))⟩
        intro k q hq
        by_cases e : k = pt
        · subst e
          simp only [if_true, Option.some.injEq] at hq
          subst hq
          have : addG gi k id k = gi k ++ [id] := by unfold addG; simp
          rw [this]
          exact h4
        · simp only [e, if_false] at hq
          have : addG gi pt id k = gi k := by unfold addG; simp [e]
          rw [this]
          have hk := hR k q hq
          refine hk.turn ht (fun b hb he => ?_)
          have hbg := hk.ge b hb
          rcases he with (he | he) | he
          · omega
          · omega
          · exact PR.apart hk hrow (p.qa k q hq).1 hne e hb he
end Go.Proofs.Ytjldcillackhdaa
