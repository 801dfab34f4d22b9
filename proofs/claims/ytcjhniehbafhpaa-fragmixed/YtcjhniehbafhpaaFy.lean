/- FragBack, walked. -/
import Derived.Test.YtcjhniehbafhpaaFx
namespace Go.Proofs.Ytcjhniehbafhpaa
open Go.RowKit Go.Maps
set_option maxRecDepth 100000
set_option linter.unusedVariables false
set_option linter.unusedSimpArgs false

def Arg (w : World) (a : Option Addr) (zs : List Int) : Prop := zs = [] ∨ ∃ x, a = some x ∧ ∀ i, i < zs.length → w.cell? (x.add i) = some (.int .i64 (zs.getD i 0))
theorem cuts_px {f t tl pr id : Int} {op da : ByteArray} {most : Int} {ps : List Pk} (h : Cuts f t tl pr id 0 false false op da most 0 ps) (hd : da.size ≤ 400) : ∃ (g : Nat → Pk) (N : Nat), PX (⟨f, t, tl, pr, id, 0, false, false, op, da⟩ : Pk) g N ∧ ps = (List.range (N + 1)).map g := by
  unfold Cuts at h
  rcases h with ⟨h, -⟩ | ⟨hm, h⟩
  · cases h
  · rcases h with ⟨h, -⟩ | ⟨h, -⟩ | ⟨⟨h1, h2⟩, ⟨-, h3, h4⟩ | ⟨h4, ⟨h, -⟩ | ⟨-, h3, -⟩⟩⟩
    · cases h
    · cases h
    · exact ⟨fun _ => (⟨f, t, tl, pr, id, 0, false, false, op, da⟩ : Pk), 0, px_one hm rfl rfl, h3⟩
    · cases h
    · obtain ⟨R, hR⟩ : ∃ R : Nat, (R : Int) = (most - (20 + (op.size : Int))) / 8 * 8 := ⟨((most - (20 + (op.size : Int))) / 8 * 8).toNat, by omega⟩
      have hRt : ((most - (20 + (op.size : Int))) / 8 * 8).toNat = R := by omega
      rw [hRt] at h3
      have hx : Cx (⟨f, t, tl, pr, id, 0, false, false, op, da⟩ : Pk) R (fullN da.size R) := by
        have hm1 := full_mul da.size R (by omega)
        refine ⟨by omega, by omega, hm1, ?_, ?_, rfl, rfl, hd, hm⟩
        · have hR8 : 8 ≤ R := by omega
          apply Classical.byContradiction
          intro hn
          have := (full_lt da.size R (fullN da.size R) (by omega) (by omega)).2 (by show _ < da.size; have : ¬ da.size ≤ (fullN da.size R + 1) * R := hn; omega)
          omega
        · unfold fullN
          exact (Nat.le_div_iff_mul_le (by omega)).2 (by omega)
      exact ⟨_, _, px_cut hx, by rw [h3]; exact all_is hx⟩
theorem range_lt {j : Nat} : ∀ d ∈ List.range j, d < j := fun d hd => List.mem_range.1 hd
/-- How the second loop goes: what is left, and which pieces the box has. -/
structure LS (N i : Nat) (D S : List Nat) : Prop where
  dp : D.Pairwise (· < ·)
  sp : S.Pairwise (· < ·)
  iff : ∀ x, x ∈ D ↔ x ≤ N ∧ x ∉ S
  sN : ∀ x ∈ S, x ≤ N
  cyc : ∀ x ∈ D, ∀ t, 200 ≤ t → t < i → t % (N + 1) ≠ x
theorem LS.bound {N i : Nat} {D S : List Nat} (h : LS N i D S) (hD : D ≠ []) (hN : N < 60) : i ≤ 260 := by
  cases D with
  | nil => exact absurd rfl hD
  | cons x r =>
    have hx := (h.iff x).1 (List.mem_cons_self ..)
    apply Classical.byContradiction
    intro hi
    -- a tick from 200 on that is x
    have : ∃ t, 200 ≤ t ∧ t < i ∧ t % (N + 1) = x := by
      refine ⟨200 + (x + (N + 1) - 200 % (N + 1)) % (N + 1), by omega, ?_, ?_⟩
      · have := Nat.mod_lt (x + (N + 1) - 200 % (N + 1)) (Nat.succ_pos N)
        have : (x + (N + 1) - 200 % (N + 1)) % (N + 1) < N + 1 := this
        omega
      · have h1 := Nat.mod_lt 200 (Nat.succ_pos N)
        have h1' : 200 % (N + 1) < N + 1 := h1
        rw [Nat.add_mod, Nat.mod_mod, ← Nat.add_mod]
        have h2 : 200 + (x + (N + 1) - 200 % (N + 1)) = x + (N + 1) * (200 / (N + 1) + 1) := by
          have := Nat.div_add_mod 200 (N + 1)
          rw [Nat.mul_add, Nat.mul_one]
          omega
        rw [h2, Nat.add_mul_mod_self_left]
        exact Nat.mod_eq_of_lt (by omega)
    obtain ⟨t, h1, h2, h3⟩ := this
    exact h.cyc x (List.mem_cons_self ..) t h1 h2 h3
theorem LS.slen {N i : Nat} {D S : List Nat} (h : LS N i D S) (hN : N < 60) : S.length < 64 := by
  have hle : ∀ (T : List Nat) (c : Nat), T.Pairwise (· < ·) → (∀ x ∈ T, c ≤ x ∧ x ≤ N) → T.length ≤ N + 1 - c := by
    intro T
    induction T with
    | nil => intro c _ _; simp
    | cons y r ih =>
      intro c hp hb
      have hy := hb y (List.mem_cons_self ..)
      have := ih (y + 1) (List.pairwise_cons.1 hp).2 (fun x hx => ⟨(List.pairwise_cons.1 hp).1 x hx, (hb x (List.mem_cons_of_mem _ hx)).2⟩)
      rw [List.length_cons]
      omega
  have := hle S 0 h.sp (fun x hx => ⟨Nat.zero_le _, h.sN x hx⟩)
  omega
theorem LS.dlen {N i : Nat} {D S : List Nat} (h : LS N i D S) (hN : N < 60) : D.length ≤ 1000 := by
  have hle : ∀ (T : List Nat) (c : Nat), T.Pairwise (· < ·) → (∀ x ∈ T, c ≤ x ∧ x ≤ N) → T.length ≤ N + 1 - c := by
    intro T
    induction T with
    | nil => intro c _ _; simp
    | cons y r ih =>
      intro c hp hb
      have hy := hb y (List.mem_cons_self ..)
      have := ih (y + 1) (List.pairwise_cons.1 hp).2 (fun x hx => ⟨(List.pairwise_cons.1 hp).1 x hx, (hb x (List.mem_cons_of_mem _ hx)).2⟩)
      rw [List.length_cons]
      omega
  have := hle D 0 h.dp (fun x hx => ⟨Nat.zero_le _, ((h.iff x).1 hx).1⟩)
  omega
/-- A piece that is there already. -/
theorem LS.skip {N i k : Nat} {D S : List Nat} (h : LS N i D S) (hk : k ∉ D) (hc : 200 ≤ i → i % (N + 1) = k) : LS N (i + 1) D S :=
  ⟨h.dp, h.sp, h.iff, h.sN, fun x hx t h1 h2 e => by
    rcases Nat.lt_or_ge t i with h3 | h3
    · exact h.cyc x hx t h1 h3 e
    · obtain rfl : t = i := by omega
      exact hk (by rw [← hc h1, e]; exact hx)⟩
/-- A piece that was missing. -/
theorem LS.put {N i k : Nat} {D S T : List Nat} (h : LS N i D S) (hk : k ≤ N) (hT : T.Pairwise (· < ·)) (hm : ∀ y, y ∈ T ↔ y = k ∨ y ∈ S) (hc : 200 ≤ i → i % (N + 1) = k) : LS N (i + 1) (D.filter (fun d => decide (d ≠ k))) T := by
  refine ⟨h.dp.filter _, hT, fun x => ?_, fun x hx => ?_, fun x hx t h1 h2 e => ?_⟩
  · rw [List.mem_filter, h.iff, hm]
    simp only [decide_eq_true_eq, not_or]
    constructor
    · rintro ⟨⟨a, b⟩, c⟩; exact ⟨a, c, b⟩
    · rintro ⟨a, c, b⟩; exact ⟨⟨a, b⟩, c⟩
  · rcases (hm x).1 hx with e | e
    · omega
    · exact h.sN x e
  · rw [List.mem_filter] at hx
    rcases Nat.lt_or_ge t i with h3 | h3
    · exact h.cyc x hx.1 t h1 h3 e
    · obtain rfl : t = i := by omega
      have := hx.2
      simp only [decide_eq_true_eq] at this
      exact this (by rw [← hc h1, e])
theorem one_left {D : List Nat} {k : Nat} (hp : D.Pairwise (· < ·)) (hk : k ∈ D) (hl : D.length = 1) : D = [k] := by
  match D, hl with
  | [d], _ => rw [List.mem_singleton.1 hk]
theorem more_left {D : List Nat} {k : Nat} (hp : D.Pairwise (· < ·)) (hk : k ∈ D) (hl : D.length ≠ 1) : ∃ x ∈ D, x ≠ k := by
  match D, hl with
  | [d], hl => exact absurd rfl hl
  | d :: e :: r, _ =>
    have hde := (List.pairwise_cons.1 hp).1 e (List.mem_cons_self ..)
    by_cases h : d = k
    · exact ⟨e, by simp, by omega⟩
    · exact ⟨d, by simp, h⟩
end Go.Proofs.Ytcjhniehbafhpaa
