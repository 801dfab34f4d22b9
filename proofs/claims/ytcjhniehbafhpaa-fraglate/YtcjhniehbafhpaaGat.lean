/- The contract of the closure that gathers a piece: it stands behind those that were gathered; nothing elder turns. -/
import Derived.Test.YtcjhniehbafhpaaChk
import Derived.Laws.AppendOwn
import Derived.Laws.AppendOwnNone
import Derived.Carry
namespace Go.Proofs.Ytcjhniehbafhpaa
open Go.RowKit
set_option maxRecDepth 100000

theorem info32 : (Try.prog.info? 32).map (fun i => (i.zero, i.size, i.bytes)) = some (some (.agg #[.int .i64 0, .int .i64 0, .int .i64 0, .int .i64 0, .int .i64 0, .int .i64 0, .bool false, .bool false, .string ⟨#[]⟩, .string ⟨#[]⟩]), 10, 88) := by kernel_rfl
theorem grownBy_setCell (w : World) (a : Addr) (v : Value) : w.grownBy (w.setCell a v) (some a.block) :=
  ⟨rfl, rfl, rfl, by simp [World.setCell], fun k _ hk => by
    have hne : a.block ≠ k := fun e => hk (by rw [e])
    simp only [World.setCell]
    simp [Array.getElem?_modify, hne]⟩
theorem own_setCell {w : World} {base : Nat} {e : TypeId} {size n : Nat} {v : Value} {xs : List Value} (h : w.ownsRow base e size v n xs) (b j : Nat) (u : Value) (hb : b < base) : (w.setCell ⟨b, j, none⟩ u).ownsRow base e size v n xs :=
  h.kept (grownBy_setCell w ⟨b, j, none⟩ u) (by
    cases hv : v.ownBlock with
    | none => exact .inl rfl
    | some k => exact .inr (fun e => by have := (h.lt k hv).1; simp at e; omega))
theorem one10 (f t tl pr id fr : Int) (mo dn : Bool) (op da : ByteArray) : ∀ u ∈ ([.int .i64 f, .int .i64 t, .int .i64 tl, .int .i64 pr, .int .i64 id, .int .i64 fr, .bool mo, .bool dn, .string op, .string da] : List Value), u.oneCell' = true := by
  intro u hu
  simp only [List.mem_cons, List.not_mem_nil, or_false] at hu
  rcases hu with rfl | rfl | rfl | rfl | rfl | rfl | rfl | rfl | rfl | rfl <;> rfl

set_option maxRecDepth 100000 in
set_option maxHeartbeats 4000000 in
theorem gather_any (f t tl pr id fr : Int) (mo dn : Bool) (op da : ByteArray) (x y : Int) (more : Bool) (w0 W : World) (base0 b B R0 n : Nat) (v : Value) (xs : List Value)
    (hx0 : 0 ≤ x) (hxy : x ≤ y) (hy : y ≤ (da.size : Int)) (hd : (da.size : Int) ≤ 65535) (hf0 : 0 ≤ fr) (hf1 : fr ≤ 8191) (hn : n ≤ 65535)
    (hbel : Below base0 w0 W) (hb0 : base0 ≤ b) (hB0 : base0 ≤ B) (hbB : b < B) (hBR : B < R0) (hR : R0 ≤ W.heap.size) (hp : At W b #[.int .i64 f, .int .i64 t, .int .i64 tl, .int .i64 pr, .int .i64 id, .int .i64 fr, .bool mo, .bool dn, .string op, .string da]) (hB : At W B #[v]) (hown : W.ownsRow R0 32 10 v n xs) :
    Calls Try.prog 45 #[.int .i64 x, .int .i64 y, .bool more, .pointer (some ⟨b, 0, none⟩), .pointer (some ⟨B, 0, none⟩)] W fun e w' => ∃ v', e = .returned (.tuple #[]) ∧ Below base0 w0 w' ∧ R0 ≤ w'.heap.size ∧ At w' b #[.int .i64 f, .int .i64 t, .int .i64 tl, .int .i64 pr, .int .i64 id, .int .i64 fr, .bool mo, .bool dn, .string op, .string da] ∧ At w' B #[v'] ∧ w'.ownsRow R0 32 10 v' (n + 1) (xs ++ [.int .i64 f, .int .i64 t, .int .i64 tl, .int .i64 pr, .int .i64 id, .int .i64 (fr + x / 8), .bool more, .bool dn, .string op, .string (da.extract x.toNat y.toNat)]) ∧ v' ≠ .slice none 0 0 := by
  obtain ⟨i0, hi, hz0, hz1, hz2⟩ := info_parts info32
  obtain ⟨⟨c0, c1, c2, c3, c4, c5, c6, c7, c8, c9⟩, -, -⟩ := hp.ten
  have hq := hB.2 0 v rfl
  have hx8 : 0 ≤ x / 8 := by omega
  have hx9 : x / 8 ≤ 8191 := by omega
  have hne1 : b ≠ W.heap.size := by have := hp.1; omega
  have hne2 : B ≠ W.heap.size := by have := hB.1; omega
  have hc9 : ∀ o, (W.alloc o).cell? ⟨b, 9, none⟩ = some (.string da) := fun o => later (bel1 W o) c9
  have hcB : ∀ o, (W.alloc o).cell? ⟨B, 0, none⟩ = some v := fun o => later (bel1 W o) hq.1
  have hx10 : 0 ≤ y := by omega
  have hx11 : x ≤ (da.size : Int) := by omega
  go_enter Try.func45, Try.ntmps45
  go_wp2_with (first | (at_builtin; refine wpList_append_own _ rfl _ _ 36 rfl R0 32 i0 (.agg #[.int .i64 0, .int .i64 0, .int .i64 0, .int .i64 0, .int .i64 0, .int .i64 0, .bool false, .bool false, .string ⟨#[]⟩, .string ⟨#[]⟩]) 10 88 Try.underlying36 hi hz0 hz1 hz2 rfl (by decide) v n xs rfl ((hown.alloc _).alloc _) ⟨W.heap.size + 1, 0, none⟩ 1 1 [.int .i64 f, .int .i64 t, .int .i64 tl, .int .i64 pr, .int .i64 id, .int .i64 (fr + x / 8), .bool more, .bool dn, .string op, .string (da.extract x.toNat y.toNat)] rfl rfl ?c1 (one10 _ _ _ _ _ _ _ _ _ _) ?c3 ?c4 ?c5 ?_))
  case c1 =>
    intro j u hu
    rw [Addr.add_lit, Nat.zero_add]
    have := (At.box (W.alloc (.cells #[.int .i64 f, .int .i64 t, .int .i64 tl, .int .i64 pr, .int .i64 id, .int .i64 (fr + x / 8), .bool more, .bool dn, .string op, .string (da.extract x.toNat y.toNat)] 32)) #[.int .i64 f, .int .i64 t, .int .i64 tl, .int .i64 pr, .int .i64 id, .int .i64 (fr + x / 8), .bool more, .bool dn, .string op, .string (da.extract x.toNat y.toNat)] 32).2 j u (by simpa using hu)
    rw [World.size_alloc] at this
    exact this.1
  case c3 => unfold maxLen; omega
  case c4 => omega
  case c5 => simp; omega
  intro v' w4 hown4 hgrow hnil
  have hB1 : Below base0 w0 w4 := ((hbel.alloc (by omega) _).alloc (by simp; omega) _).grown hgrow (by simp; omega) (fun k e => by have := (hown.lt k e).1; omega)
  have hkeep : ∀ k, k < R0 → w4.heap[k]? = W.heap[k]? := by
    intro k hk
    have h1 := hgrow.block k (by simp; omega) (fun e => by have := (hown.lt k e.symm).1; omega)
    exact h1.trans (((World.grownBy_alloc _ _ none).block k (by simp; omega) (by simp)).trans ((World.grownBy_alloc _ _ none).block k (by omega) (by simp)))
  have hsz4 : W.heap.size + 2 ≤ w4.heap.size := by have := hgrow.size; simp at this; omega
  have hp4 : At w4 b #[.int .i64 f, .int .i64 t, .int .i64 tl, .int .i64 pr, .int .i64 id, .int .i64 fr, .bool mo, .bool dn, .string op, .string da] := ⟨by omega, fun i u h => ⟨(World.cell?_of_block (a := ⟨b, i, none⟩) (hkeep b (by omega))).trans (hp.2 i u h).1, (World.frozen?_of_block (a := ⟨b, i, none⟩) (hkeep b (by omega))).trans (hp.2 i u h).2⟩⟩
  have hB4 : At w4 B #[v] := ⟨by omega, fun i u h => ⟨(World.cell?_of_block (a := ⟨B, i, none⟩) (hkeep B (by omega))).trans (hB.2 i u h).1, (World.frozen?_of_block (a := ⟨B, i, none⟩) (hkeep B (by omega))).trans (hB.2 i u h).2⟩⟩
  obtain ⟨g0, g1⟩ := hB4.2 0 v rfl
  have hgl := hB4.1
  clear hgrow hkeep hc9 hcB hq hi hz0 hz1 hz2
  have hnn : v' ≠ .slice none 0 0 := hnil
  obtain ⟨g, cap, rfl⟩ : ∃ g cap, v' = .slice (some ⟨g, 0, none⟩) (n + 1) cap := by
    rcases hown4.2 with ⟨h, _⟩ | ⟨g, cap, cur, h, _⟩
    · exact absurd h hnn
    · exact ⟨g, cap, h⟩
  clear hnil
  go_wp2
  refine bodyPost_end (v := .tuple #[]) (by simp [results, Try.results45, go_sem]) rfl ⟨.slice (some ⟨g, 0, none⟩) (n + 1) cap, rfl, hB1.setCell hB0 _, by simp [World.setCell]; omega, ?_, ?_, own_setCell hown4 B 0 _ hBR, hnn⟩
  · refine ⟨by simpa [World.setCell] using hp4.1, fun i u h => ⟨?_, ?_⟩⟩
    · rw [World.cell?_setCell_other]
      · exact (hp4.2 i u h).1
      · exact fun e => by have := congrArg Addr.block e; simp at this; omega
    · rw [World.frozen?_setCell]; exact (hp4.2 i u h).2
  · refine ⟨by simpa [World.setCell] using hB4.1, fun i u h => ⟨?_, ?_⟩⟩
    · have hi0 : i = 0 := by have := (Array.getElem?_eq_some_iff.1 h).1; simp at this; exact this
      subst hi0
      obtain rfl := Option.some.inj h
      rw [World.cell?_setCell_same _ _ _ g0]; rfl
    · rw [World.frozen?_setCell]
      have hi0 : i = 0 := by have := (Array.getElem?_eq_some_iff.1 h).1; simp at this; exact this
      subst hi0
      exact g1
end Go.Proofs.Ytcjhniehbafhpaa
