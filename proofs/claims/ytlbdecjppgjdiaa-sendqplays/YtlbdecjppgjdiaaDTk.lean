/- near; rows of ranges; a pair of queues. -/
import Derived.Test.YtlbdecjppgjdiaaDTj
namespace Go.Proofs.Ytlbdecjppgjdiaa
open Go.RowKit Go.Maps Go.Lib
set_option maxRecDepth 100000
set_option linter.unusedVariables false
set_option linter.unusedSimpArgs false


def nearV (at_ n : Int) : Int := (at_ + n.tmod 100000) % 4294967296
theorem near_any (at_ n : Int) (w : World) (h0 : 0 ≤ at_) (h1 : at_ ≤ 4294967295) : Calls Try.prog 28 #[.int .i64 at_, .int .i64 n] w fun e w' => e = .returned (.int .i64 (nearV at_ n)) ∧ w' = w := by
  have hb := (tmod_round n 100000 (by decide)).2
  have hc : ∀ W, Calls Try.prog 17 #[.int .i64 (at_ + n.tmod 100000), .int .i64 4294967296] W fun e w' => e = .returned (.int .i64 (nearV at_ n)) ∧ w' = W := fun W => among_any (at_ + n.tmod 100000) 4294967296 W (by decide) (by decide)
  generalize nearV at_ n = nv at *
  generalize htm : n.tmod 100000 = tm at *
  have HT : Hid (n.tmod 100000 = tm) := htm
  go_enter Try.func28, Try.ntmps28
  go_wp2_with fail
  refine (hc _).mono ?_
  rintro e w' ⟨rfl, rfl⟩
  go_wp2
  go_ret
  exact ⟨rfl, rfl⟩
def enR (e : Rg) : List Value := [.int .i64 e.1, .int .i64 e.2]
def RO (w : World) (base : Bk) (v : Value) (rs : List Rg) : Prop := OwnP w base 60 2 v rs.length (rs.flatMap enR)
theorem infoR : (Try.prog.info? 60).map (fun i => (i.zero, i.size, i.bytes)) = some (some (.agg #[.int .i64 0, .int .i64 0]), 2, 16) := by kernel_rfl
theorem rflat_at : ∀ (L : List Rg) (i : Nat) (e : Rg), L[i]? = some e → (L.flatMap enR)[i * 2]? = some (.int .i64 e.1) ∧ (L.flatMap enR)[i * 2 + 1]? = some (.int .i64 e.2)
  | [], i, e, h => by simp at h
  | y :: r, 0, e, h => by
    obtain rfl : y = e := by simpa using h
    simp [List.flatMap_cons, enR]
  | y :: r, i + 1, e, h => by
    have := rflat_at r i e (by simpa using h)
    rw [show (i + 1) * 2 = i * 2 + 2 by omega]
    simpa [List.flatMap_cons, enR] using this
theorem rflat_len (L : List Rg) : (L.flatMap enR).length = L.length * 2 := by
  induction L with
  | nil => rfl
  | cons y r ih => simp [List.flatMap_cons, enR, ih]; omega
theorem rflat_one (L : List Rg) : ∀ u ∈ L.flatMap enR, u.oneCell' = true := by
  intro u hu
  obtain ⟨e, -, hu⟩ := List.mem_flatMap.1 hu
  simp [enR] at hu
  rcases hu with rfl | rfl <;> rfl
theorem rflat_of : ∀ (L : List Rg) (j : Nat) (u : Value), (L.flatMap enR)[j]? = some u → ∃ i e, L[i]? = some e ∧ (j = i * 2 ∧ u = .int .i64 e.1 ∨ j = i * 2 + 1 ∧ u = .int .i64 e.2)
  | [], j, u, h => by simp at h
  | y :: r, 0, u, h => ⟨0, y, rfl, Or.inl ⟨rfl, by simpa [List.flatMap_cons, enR] using h.symm⟩⟩
  | y :: r, 1, u, h => ⟨0, y, rfl, Or.inr ⟨rfl, by simpa [List.flatMap_cons, enR] using h.symm⟩⟩
  | y :: r, j + 2, u, h => by
    obtain ⟨i, e, h1, h2⟩ := rflat_of r j u (by simpa [List.flatMap_cons, enR] using h)
    refine ⟨i + 1, e, by simpa using h1, ?_⟩
    rcases h2 with ⟨h2, h3⟩ | ⟨h2, h3⟩
    · exact Or.inl ⟨by omega, h3⟩
    · exact Or.inr ⟨by omega, h3⟩
theorem rflat_set : ∀ (L : List Rg) (i : Nat) (e : Rg), i < L.length → ((L.flatMap enR).set (i * 2) (.int .i64 e.1)).set (i * 2 + 1) (.int .i64 e.2) = (L.set i e).flatMap enR
  | [], i, e, h => by simp at h
  | y :: r, 0, e, h => by simp [List.flatMap_cons, enR]
  | y :: r, i + 1, e, h => by
    have := rflat_set r i e (by simpa using h)
    rw [show (i + 1) * 2 = i * 2 + 2 by omega, show i * 2 + 2 + 1 = (i * 2 + 1) + 2 by omega]
    simpa [List.flatMap_cons, enR] using this
theorem RO.rr {w : World} {R : Bk} {v : Value} {rs : List Rg} (h : RO w R v rs) : RR w v rs := by
  rcases h.2 with ⟨rfl, h0⟩ | ⟨g, cap, cur, rfl, hg, hb, h1, h2⟩
  · obtain rfl := List.length_eq_zero_iff.1 h0
    exact ⟨none, 0, rfl, fun i r hr => by simp at hr⟩
  · refine ⟨_, _, rfl, fun i r hr => ⟨g, 0, rfl, ⟨cur, (0, 0), hb⟩, ?_⟩⟩
    obtain ⟨a, b⟩ := rflat_at rs i r hr
    have k1 := h.cells (g := g) rfl _ _ a
    have k2 := h.cells (g := g) rfl _ _ b
    rw [Addr.add_mid] at k1 k2
    simp only [Nat.zero_add] at k1 k2 ⊢
    exact ⟨k1, k2⟩
/-- A range is put at a place of one's own list. -/
theorem RO.put {w : World} {R : Bk} {g n c : Nat} {rs : List Rg} (h : RO w R (.slice (some ⟨g, 0, none⟩) n c) rs) (hn : n = rs.length) (i : Nat) (e : Rg) (hi : i < rs.length) : RO ((w.setCell ⟨g, i * 2, none⟩ (.int .i64 e.1)).setCell ⟨g, i * 2 + 1, none⟩ (.int .i64 e.2)) R (.slice (some ⟨g, 0, none⟩) n c) (rs.set i e) := by
  subst hn
  have k1 := OwnP.stored h (i * 2) (.int .i64 e.1)
  have k2 := OwnP.stored k1 (i * 2 + 1) (.int .i64 e.2)
  unfold RO
  rw [List.length_set, ← rflat_set rs i e hi]
  exact k2
/-- append([]api.Range{}, l...). -/
theorem cloner_run {w : World} {v : Value} {rs : List Rg} (hr : RR (w.alloc (.cells #[] 60)) v rs) (hc : ∀ c, v = .slice none rs.length c → c = 0) (hl : rs.length ≤ 100000) (ty : TypeId) :
    ∃ v' w', (Builtin.append_ #[31, 31] ty #[.slice (some ⟨w.heap.size, 0, none⟩) 0 0, v]).run Try.prog (w.alloc (.cells #[] 60)) = .ok v' w' ∧ RO w' (fun k => w.heap.size ≤ k) v' rs ∧ Below w.heap.size w w' := by
  obtain ⟨i0, hi, hz0, hz1, hz2⟩ := info_parts infoR
  have hown : (w.alloc (.cells #[] 60)).ownsRow w.heap.size 60 2 (.slice (some ⟨w.heap.size, 0, none⟩) 0 0) 0 [] := World.ownsRow_made w #[] 0 (Nat.le_refl _) (Nat.zero_le _) rfl
  obtain ⟨a, c, rfl, h1⟩ := hr
  cases a with
  | none =>
    obtain rfl := hc c rfl
    have hG : rs = [] := by
      cases rs with
      | nil => rfl
      | cons b r => obtain ⟨_, _, hx, -⟩ := h1 0 b rfl; cases hx
    subst hG
    exact ⟨_, _, run_append_owned_none (P := Try.prog) (w := w.alloc (.cells #[] 60)) w.heap.size 31 ty 60 i0 2 Try.underlying31 hi _ 0 [] hown, OwnP.of_ge hown (fun k h => h), bel1 _ _⟩
  | some x =>
    obtain ⟨v', w', e1, e2, e3, -⟩ := run_append_own_at (P := Try.prog) (w.alloc (.cells #[] 60)) w.heap.size 31 ty 60 i0 _ 2 16 Try.underlying31 hi hz0 hz1 hz2 rfl (by decide) _ 0 [] hown x rs.length c (rs.flatMap enR) (rflat_len rs) (fun j u hu => by
      obtain ⟨i, e, he, hq⟩ := rflat_of rs j u hu
      obtain ⟨b, off, hx, -, k3, k4⟩ := h1 i e he
      cases hx
      rw [Addr.add_mid]
      rcases hq with ⟨rfl, rfl⟩ | ⟨rfl, rfl⟩
      · exact k3
      · rw [← Nat.add_assoc]; exact k4) (rflat_one rs) (by unfold maxLen; omega) (by omega) (by simp)
    rw [Nat.zero_add, List.nil_append] at e2
    exact ⟨v', w', e1, OwnP.of_ge e2 (fun k h => h), ((Below.refl _ w).alloc (Nat.le_refl _) _).grown e3 (by simp) (by intro k hk; simp [Value.ownBlock] at hk; omega)⟩
/-- Both queues in memory. -/
structure PX (w : World) (R : Bk) (q r : Nat) (Q : Qu) (U : Ru) (vb vp vg : Value) : Prop where
  x : QX w R q Q vb vp
  y : RX w R r U vg
  l : RL Q U
  f : Q.Fine
  sz : UpR R w
theorem PX.later {w w' : World} {R : Bk} {q r : Nat} {Q : Qu} {U : Ru} {vb vp vg : Value} (h : PX w R q r Q U vb vp vg) (hb : Below w.heap.size w w') : PX w' R q r Q U vb vp vg := ⟨h.x.later hb, h.y.later hb, h.l, h.f, h.sz.up hb.size⟩
/-- Only the queues' own blocks have turned. -/
abbrev TB := TY [67, 5, 71, 45, 4]
theorem TY.more {ts us : List TypeId} {R : Bk} {w w' : World} (h : TY ts R w w') (hs : ∀ t ∈ ts, t ∈ us) : TY us R w w' := Turn.mono h (fun k ⟨a, t, ht, hk⟩ => ⟨a, t, hs t ht, hk⟩)
theorem TK.tb {R : Bk} {w w' : World} (h : TK R w w') : TB R w w' := TY.more h (by decide)
theorem TD.tb {R : Bk} {w w' : World} (h : TD R w w') : TB R w w' := TY.more h (by decide)
end Go.Proofs.Ytlbdecjppgjdiaa
