/- The contracts of Pieces of package ip and of the document's: the pieces stand in a row of their own; nothing elder turns. -/
import Derived.Test.YtdnfabcjkbadoaaCut
namespace Go.Proofs.Ytdnfabcjkbadoaa
open Go.RowKit

/-- Which pieces, or which error. -/
def Cuts (f t tl pr id fr : Int) (mo dn : Bool) (op da : ByteArray) (most c : Int) (ps : List Pk) : Prop := (c = 50 ∧ ps = [] ∧ mayP f t tl pr id fr mo op.size da.size = false ∨ mayP f t tl pr id fr mo op.size da.size = true ∧ (c = 1 ∧ ps = [] ∧ most < 28 + (op.size : Int) ∨ c = 1 ∧ ps = [] ∧ 28 + (op.size : Int) ≤ most ∧ 65535 < most ∨ (28 + (op.size : Int) ≤ most ∧ most ≤ 65535) ∧ (c = 0 ∧ ps = [⟨f, t, tl, pr, id, fr, mo, dn, op, da⟩] ∧ 20 + (op.size : Int) + (da.size : Int) ≤ most ∨ most < 20 + (op.size : Int) + (da.size : Int) ∧ (c = 2 ∧ ps = [] ∧ dn = true ∨ c = 0 ∧ ps = allP ⟨f, t, tl, pr, id, fr, mo, dn, op, da⟩ ((most - (20 + (op.size : Int))) / 8 * 8).toNat ∧ dn = false))))

set_option maxRecDepth 100000 in
set_option maxHeartbeats 4000000 in
theorem pieces_any (f t tl pr id fr : Int) (mo dn : Bool) (op da : ByteArray) (most c : Int) (ps : List Pk) (w : World) (ho : op.size ≤ 1125899906842624) (hd : da.size ≤ 1125899906842624) (h : Cuts f t tl pr id fr mo dn op da most c ps) :
    Calls Try.prog 20 #[.agg #[.int .i64 f, .int .i64 t, .int .i64 tl, .int .i64 pr, .int .i64 id, .int .i64 fr, .bool mo, .bool dn, .string op, .string da], .int .i64 most] w fun e w' => ∃ v, e = .returned (.tuple #[v, .int .i64 c]) ∧ Below w.heap.size w w' ∧ w'.ownsRow w.heap.size 23 10 v ps.length (flatP ps) := by
  have hA := At.box w #[.int .i64 f, .int .i64 t, .int .i64 tl, .int .i64 pr, .int .i64 id, .int .i64 fr, .bool mo, .bool dn, .string op, .string da] 23
  have hl := bel1 w (.cells #[.int .i64 f, .int .i64 t, .int .i64 tl, .int .i64 pr, .int .i64 id, .int .i64 fr, .bool mo, .bool dn, .string op, .string da] 23)
  have ho' : (op.size : Int) ≤ 1125899906842624 := by omega
  have hd' : (da.size : Int) ≤ 1125899906842624 := by omega
  unfold Cuts at h
  rcases h with ⟨rfl, rfl, hm⟩ | ⟨hm, h⟩
  · go_enter Try.func20, Try.ntmps20
    go_wp2_with fail
    refine (mp_f hm _ ho hd).mono ?_
    rintro e w1 ⟨rfl, hb⟩
    go_wp2
    go_ret2
    exact ⟨_, rfl, bt hl hb, World.ownsRow_nil _ _ _ _⟩
  · have hq := mayP_q hm
    obtain ⟨-, -, -, -, -, ⟨q0, q1⟩, q2, q3, -, q4, -⟩ := hq
    have q3' : (op.size : Int) ≤ 40 := by omega
    have q4' : (da.size : Int) ≤ 65535 := by omega
    have e8 : 20 + (op.size : Int) + 8 = 28 + (op.size : Int) := by omega
    rcases h with ⟨rfl, rfl, h1⟩ | ⟨rfl, rfl, h1, h2⟩ | ⟨⟨h1, h2⟩, ⟨rfl, rfl, h3⟩ | ⟨h3, ⟨rfl, rfl, rfl⟩ | ⟨rfl, rfl, rfl⟩⟩⟩
    · go_enter Try.func20, Try.ntmps20
      go_wp2_with fail
      refine (mp_t hm _ ho hd).mono ?_
      rintro e w1 ⟨rfl, hb⟩
      replace hl := bt hl hb
      replace hA := hA.later hb
      clear hb
      obtain ⟨⟨c0, c1, c2, c3, c4, c5, c6, c7, c8, c9⟩, -, -⟩ := hA.ten
      go_wp2_with fail
      refine (hl_any _ _ _ _ _ _ _ _ _ _ _ ho).mono ?_
      rintro e w2 ⟨rfl, hb⟩
      replace hl := bt hl hb
      replace hA := hA.later hb
      clear hb c0 c1 c2 c3 c4 c5 c6 c7 c8 c9
      obtain ⟨⟨c0, c1, c2, c3, c4, c5, c6, c7, c8, c9⟩, -, -⟩ := hA.ten
      go_wp2
      go_ret2
      exact ⟨_, rfl, hl, World.ownsRow_nil _ _ _ _⟩
    · go_enter Try.func20, Try.ntmps20
      go_wp2_with fail
      refine (mp_t hm _ ho hd).mono ?_
      rintro e w1 ⟨rfl, hb⟩
      replace hl := bt hl hb
      replace hA := hA.later hb
      clear hb
      obtain ⟨⟨c0, c1, c2, c3, c4, c5, c6, c7, c8, c9⟩, -, -⟩ := hA.ten
      go_wp2_with fail
      refine (hl_any _ _ _ _ _ _ _ _ _ _ _ ho).mono ?_
      rintro e w2 ⟨rfl, hb⟩
      replace hl := bt hl hb
      replace hA := hA.later hb
      clear hb c0 c1 c2 c3 c4 c5 c6 c7 c8 c9
      obtain ⟨⟨c0, c1, c2, c3, c4, c5, c6, c7, c8, c9⟩, -, -⟩ := hA.ten
      go_wp2
      go_ret2
      exact ⟨_, rfl, hl, World.ownsRow_nil _ _ _ _⟩
    · go_enter Try.func20, Try.ntmps20
      go_wp2_with fail
      refine (mp_t hm _ ho hd).mono ?_
      rintro e w1 ⟨rfl, hb⟩
      replace hl := bt hl hb
      replace hA := hA.later hb
      clear hb
      obtain ⟨⟨c0, c1, c2, c3, c4, c5, c6, c7, c8, c9⟩, -, -⟩ := hA.ten
      go_wp2_with fail
      refine (hl_any _ _ _ _ _ _ _ _ _ _ _ ho).mono ?_
      rintro e w2 ⟨rfl, hb⟩
      replace hl := bt hl hb
      replace hA := hA.later hb
      clear hb c0 c1 c2 c3 c4 c5 c6 c7 c8 c9
      obtain ⟨⟨c0, c1, c2, c3, c4, c5, c6, c7, c8, c9⟩, -, -⟩ := hA.ten
      go_wp2
      go_ret2
      exact ⟨_, rfl, bt hl (bel1 _ _), World.ownsRow_lit w2 #[.int .i64 f, .int .i64 t, .int .i64 tl, .int .i64 pr, .int .i64 id, .int .i64 fr, .bool mo, .bool dn, .string op, .string da] 1 hl.size (by decide) rfl⟩
    · go_enter Try.func20, Try.ntmps20
      go_wp2_with fail
      refine (mp_t hm _ ho hd).mono ?_
      rintro e w1 ⟨rfl, hb⟩
      replace hl := bt hl hb
      replace hA := hA.later hb
      clear hb
      obtain ⟨⟨c0, c1, c2, c3, c4, c5, c6, c7, c8, c9⟩, -, -⟩ := hA.ten
      go_wp2_with fail
      refine (hl_any _ _ _ _ _ _ _ _ _ _ _ ho).mono ?_
      rintro e w2 ⟨rfl, hb⟩
      replace hl := bt hl hb
      replace hA := hA.later hb
      clear hb c0 c1 c2 c3 c4 c5 c6 c7 c8 c9
      obtain ⟨⟨c0, c1, c2, c3, c4, c5, c6, c7, c8, c9⟩, -, -⟩ := hA.ten
      go_wp2
      go_ret2
      exact ⟨_, rfl, hl, World.ownsRow_nil _ _ _ _⟩
    · obtain ⟨R, hR⟩ : ∃ R : Nat, (R : Int) = (most - (20 + (op.size : Int))) / 8 * 8 := ⟨((most - (20 + (op.size : Int))) / 8 * 8).toNat, by omega⟩
      have hRt : ((most - (20 + (op.size : Int))) / 8 * 8).toNat = R := by omega
      rw [hRt]
      have hRs : (most - (20 + (op.size : Int))) / 8 * 8 = (R : Int) := hR.symm
      have k1 : 0 ≤ most - (20 + (op.size : Int)) := by omega
      have k2 : most - (20 + (op.size : Int)) ≤ 65535 := by omega
      have k3 : 8 ≤ R := by omega
      have k4 : R ≤ 65535 := by omega
      have k5 : 0 < da.size := by omega
      clear hR hRt
      go_enter Try.func20, Try.ntmps20
      go_wp2_with fail
      refine (mp_t hm _ ho hd).mono ?_
      rintro e w1 ⟨rfl, hb⟩
      replace hl := bt hl hb
      replace hA := hA.later hb
      clear hb
      obtain ⟨⟨c0, c1, c2, c3, c4, c5, c6, c7, c8, c9⟩, -, -⟩ := hA.ten
      go_wp2_with fail
      refine (hl_any _ _ _ _ _ _ _ _ _ _ _ ho).mono ?_
      rintro e w2 ⟨rfl, hb⟩
      replace hl := bt hl hb
      replace hA := hA.later hb
      clear hb c0 c1 c2 c3 c4 c5 c6 c7 c8 c9
      obtain ⟨⟨c0, c1, c2, c3, c4, c5, c6, c7, c8, c9⟩, -, -⟩ := hA.ten
      go_wp2_with fail
      refine (cut_any f t tl pr id fr mo false op da R _ k3 k4 k5 q4' q0 q1).mono ?_
      rintro e w3 ⟨v, rfl, hb, hown⟩
      have hl' := hl
      replace hl := bt hl hb
      go_wp2
      go_ret2
      exact ⟨_, rfl, hl, own_mono hown hl'.size⟩

set_option maxRecDepth 100000 in
set_option maxHeartbeats 4000000 in
theorem rcut_any (f t tl pr id fr : Int) (mo : Bool) (op da : ByteArray) (most : Int) (R : Nat) (w : World) (hm : mayP f t tl pr id fr mo op.size da.size = true) (h1 : 28 + (op.size : Int) ≤ most) (h2 : most ≤ 65535) (h3 : most < 20 + (op.size : Int) + (da.size : Int)) (hRe : (most - (20 + (op.size : Int))) / 8 * 8 = (R : Int)) :
    Calls Try.prog 21 #[.agg #[.int .i64 f, .int .i64 t, .int .i64 tl, .int .i64 pr, .int .i64 id, .int .i64 fr, .bool mo, .bool false, .string op, .string da], .int .i64 most] w fun e w' => ∃ v, e = .returned (.tuple #[v, .int .i64 0]) ∧ Below w.heap.size w w' ∧ w'.ownsRow w.heap.size 23 10 v (allP ⟨f, t, tl, pr, id, fr, mo, false, op, da⟩ R).length (flatP (allP ⟨f, t, tl, pr, id, fr, mo, false, op, da⟩ R)) := by
  obtain ⟨i0, hi, hz0, hz1, hz2⟩ := info_parts info23
  have HI : Hid (Try.prog.info? 23 = some i0) := hi
  have HZ0 : Hid (i0.zero = some (.agg #[.int .i64 0, .int .i64 0, .int .i64 0, .int .i64 0, .int .i64 0, .int .i64 0, .bool false, .bool false, .string ⟨#[]⟩, .string ⟨#[]⟩])) := hz0
  have HZ1 : Hid (i0.size = 10) := hz1
  have HZ2 : Hid (i0.bytes = 88) := hz2
  clear hi hz0 hz1 hz2
  have hq := mayP_q hm
  obtain ⟨-, -, -, -, -, ⟨q0, q1⟩, q2, q3, -, q4, -⟩ := hq
  have q3' : (op.size : Int) ≤ 40 := by omega
  have q4' : (da.size : Int) ≤ 65535 := by omega
  have hR : 8 ≤ R := by omega
  have hR2 : R ≤ 65535 := by omega
  have hd0 : 0 < da.size := by omega
  have k1 : 0 ≤ most - (20 + (op.size : Int)) := by omega
  have k2 : most - (20 + (op.size : Int)) ≤ 65535 := by omega
  have e8 : 8 + (20 + (op.size : Int)) = 28 + (op.size : Int) := by omega
  have hN : ∀ k, k < fullN da.size R ↔ (k + 1) * R < da.size := fun k => full_lt da.size R k (by omega) hd0
  have hNm := full_mul da.size R hd0
  generalize hNe : fullN da.size R = N at *
  have HN : Hid (∀ k, k < N ↔ (k + 1) * R < da.size) := hN
  have HE : Hid (fullN da.size R = N) := hNe
  clear hN hNe
  have hNs : N ≤ 65535 := by
    apply Classical.byContradiction; intro h
    have h1 : N * 8 ≤ N * R := Nat.mul_le_mul_left N hR
    omega
  have HALL : Hid (allP ⟨f, t, tl, pr, id, fr, mo, false, op, da⟩ R = firstP ⟨f, t, tl, pr, id, fr, mo, false, op, da⟩ R N ++ [pieceZ ⟨f, t, tl, pr, id, fr, mo, false, op, da⟩ R N]) := by
    show allP ⟨f, t, tl, pr, id, fr, mo, false, op, da⟩ R = _
    unfold allP
    show firstP ⟨f, t, tl, pr, id, fr, mo, false, op, da⟩ R (fullN da.size R) ++ [pieceZ ⟨f, t, tl, pr, id, fr, mo, false, op, da⟩ R (fullN da.size R)] = _
    rw [HE.out]
  have hA := At.box w #[.int .i64 f, .int .i64 t, .int .i64 tl, .int .i64 pr, .int .i64 id, .int .i64 fr, .bool mo, .bool false, .string op, .string da] 23
  have hl := bel1 w (.cells #[.int .i64 f, .int .i64 t, .int .i64 tl, .int .i64 pr, .int .i64 id, .int .i64 fr, .bool mo, .bool false, .string op, .string da] 23)
  go_enter Try.func21, Try.ntmps21
  go_wp2_with fail
  refine (rchk_t hm _ (by omega) (by omega)).mono ?_
  rintro e w1 ⟨rfl, hb⟩
  replace hl := bt hl hb
  replace hA := hA.later hb
  clear hb
  obtain ⟨⟨c0, c1, c2, c3, c4, c5, c6, c7, c8, c9⟩, -, -⟩ := hA.ten
  go_wp2_with fail
  clear c0 c1 c2 c3 c4 c5 c6 c7 c8 c9
  go_loopw [9, 10] (fun out at_ W => ∃ (k : Nat) (v : Value) (ps : List Pk), (k ≤ N ∧ ps = firstP ⟨f, t, tl, pr, id, fr, mo, false, op, da⟩ R k ∨ k = N + 1 ∧ ps = allP ⟨f, t, tl, pr, id, fr, mo, false, op, da⟩ R) ∧ v = out ∧ at_ = .int .i64 ((k * R : Nat) : Int) ∧ Below w.heap.size w W ∧ w.heap.size + 1 ≤ W.heap.size ∧ At W w.heap.size #[.int .i64 f, .int .i64 t, .int .i64 tl, .int .i64 pr, .int .i64 id, .int .i64 fr, .bool mo, .bool false, .string op, .string da] ∧ W.ownsRow (w.heap.size + 1) 23 10 v k (flatP ps)) (fun _ at_ _ => N * R + R - (intOf at_).toNat)
  case atStart =>
    exact ⟨0, .slice none 0 0, [], .inl ⟨Nat.zero_le _, by simp [firstP]⟩, rfl, by simp, hl, hA.1, hA, World.ownsRow_nil _ _ _ _⟩
  case round =>
    obtain ⟨k, v, ps, hps, rfl, rfl, n1, n2, n3, n4⟩ := hrel
    clear hl hA
    have e1 : (k + 1) * R = k * R + R := by rw [Nat.add_mul, Nat.one_mul]
    obtain ⟨c0, c1, c2, c3, c4, c5, c6, c7, c8, c9⟩ := n3.ten.1
    have hc5 : ∀ o, (wr.alloc o).cell? ⟨w.heap.size, 5, none⟩ = some (.int .i64 fr) := fun o => later (bel1 wr o) c5
    have hc9 : ∀ o, (wr.alloc o).cell? ⟨w.heap.size, 9, none⟩ = some (.string da) := fun o => later (bel1 wr o) c9
    by_cases hend : k = N + 1
    · have hps2 : ps = allP ⟨f, t, tl, pr, id, fr, mo, false, op, da⟩ R := by
        rcases hps with ⟨h, _⟩ | ⟨_, h⟩
        · omega
        · exact h
      subst hps2
      have hnl : ¬ (N + 1) * R < da.size := fun h => by have := (HN.out N).2 h; omega
      subst hend
      clear hps
      obtain ⟨A, hA⟩ : ∃ A, A = (N + 1) * R := ⟨_, rfl⟩
      rw [← hA]
      rw [← hA] at hnl
      have hAb : A ≤ N * R + R := by rw [hA, Nat.add_mul, Nat.one_mul]; exact Nat.le_refl _
      clear hA e1
      have g2 : (A : Int) ≤ 200000 := by omega
      have g1 : ¬ (A : Int) < (da.size : Int) := by omega
      go_wp2
      go_ret2
      refine ⟨_, rfl, n1, ?_⟩
      have e4 : (allP ⟨f, t, tl, pr, id, fr, mo, false, op, da⟩ R).length = N + 1 := by rw [allP_len]; show fullN da.size R + 1 = _; rw [HE.out]
      rw [e4]
      exact own_mono n4 (by omega)
    · have hps2 : k ≤ N ∧ ps = firstP ⟨f, t, tl, pr, id, fr, mo, false, op, da⟩ R k := by
        rcases hps with h | ⟨h, _⟩
        · exact h
        · exact absurd h hend
      obtain ⟨hk, rfl⟩ := hps2
      clear hps hend
      have hkm : k * R ≤ N * R := Nat.mul_le_mul_right R hk
      have hown := n4
      have hnR : w.heap.size + 1 ≤ wr.heap.size := n2
      by_cases hlt : k < N
      · have hk1 := (HN.out k).1 hlt
        rw [e1] at hk1
        obtain ⟨A, hA⟩ : ∃ A, A = k * R := ⟨_, rfl⟩
        have HA : Hid (A = k * R) := hA
        rw [← hA]
        rw [← hA] at hk1 hkm
        clear hA e1
        have g0 : (A : Int) < (da.size : Int) := by omega
        have g1 : (A : Int) + (R : Int) < (da.size : Int) := by omega
        have g2 : (A : Int) ≤ 65535 := by omega
        have g3 : (R : Int) ≤ 65535 := by omega
        have g4 : 0 ≤ (A : Int) + (R : Int) := by omega
        have g5 : (A : Int) ≤ (A : Int) + (R : Int) := by omega
        have g6 : (A : Int) + (R : Int) ≤ (da.size : Int) := by omega
        go_wp2_with (first | (at_builtin; refine wpList_append_own _ rfl _ _ 34 rfl (w.heap.size + 1) 23 i0 (.agg #[.int .i64 0, .int .i64 0, .int .i64 0, .int .i64 0, .int .i64 0, .int .i64 0, .bool false, .bool false, .string ⟨#[]⟩, .string ⟨#[]⟩]) 10 88 Try.underlying34 HI.out HZ0.out HZ1.out HZ2.out rfl (by decide) v k (flatP (firstP ⟨f, t, tl, pr, id, fr, mo, false, op, da⟩ R k)) rfl ((hown.alloc _).alloc _) ⟨wr.heap.size + 1, 0, none⟩ 1 1 [.int .i64 f, .int .i64 t, .int .i64 tl, .int .i64 pr, .int .i64 id, .int .i64 (fr + (A : Int) / 8), .bool true, .bool false, .string op, .string (da.extract A (A + R))] rfl rfl ?c1 (one10 _ _ _ _ _ _ _ _ _ _) ?c3 ?c4 ?c5 ?_))
        case c1 =>
          intro j u hu
          rw [Addr.add_lit, Nat.zero_add]
          have := (At.box (wr.alloc (.cells #[.int .i64 f, .int .i64 t, .int .i64 tl, .int .i64 pr, .int .i64 id, .int .i64 (fr + (A : Int) / 8), .bool true, .bool false, .string op, .string (da.extract A (A + R))] 23)) #[.int .i64 f, .int .i64 t, .int .i64 tl, .int .i64 pr, .int .i64 id, .int .i64 (fr + (A : Int) / 8), .bool true, .bool false, .string op, .string (da.extract A (A + R))] 23).2 j u (by simpa using hu)
          rw [World.size_alloc] at this
          exact this.1
        case c3 => unfold maxLen; omega
        case c4 => omega
        case c5 => simp; omega
        intro v' w4 hown4 hgrow hnil
        have hB1 : Below w.heap.size w w4 := ((n1.alloc (by omega) _).alloc (by simp; omega) _).grown hgrow (by simp; omega) (fun k e => by have := (hown.lt k e).1; omega)
        have hkeep : ∀ k, k < w.heap.size + 1 → w4.heap[k]? = wr.heap[k]? := by
          intro k hk
          have h1 := hgrow.block k (by simp; omega) (fun e => by have := (hown.lt k e.symm).1; omega)
          exact h1.trans (((World.grownBy_alloc _ _ none).block k (by simp; omega) (by simp)).trans ((World.grownBy_alloc _ _ none).block k (by omega) (by simp)))
        have hsz4 : wr.heap.size + 2 ≤ w4.heap.size := by have := hgrow.size; simp at this; omega
        have hp4 : At w4 w.heap.size #[.int .i64 f, .int .i64 t, .int .i64 tl, .int .i64 pr, .int .i64 id, .int .i64 fr, .bool mo, .bool false, .string op, .string da] := ⟨by omega, fun i u h => ⟨(World.cell?_of_block (a := ⟨w.heap.size, i, none⟩) (hkeep w.heap.size (by omega))).trans (n3.2 i u h).1, (World.frozen?_of_block (a := ⟨w.heap.size, i, none⟩) (hkeep w.heap.size (by omega))).trans (n3.2 i u h).2⟩⟩
        clear hgrow hkeep hc5 hc9 c0 c1 c2 c3 c4 c5 c6 c7 c8 c9 hnil
        go_wp2
        go_roundw
        case rel =>
          refine ⟨k + 1, v', firstP ⟨f, t, tl, pr, id, fr, mo, false, op, da⟩ R (k + 1), .inl ⟨hlt, rfl⟩, rfl, ?_, hB1, by omega, hp4, ?_⟩
          · rw [Nat.add_mul, Nat.one_mul, ← HA.out]; go_num
          · rw [firstP_succ, flatP_snoc]
            have e3 : (pieceN ⟨f, t, tl, pr, id, fr, mo, false, op, da⟩ R k).L = [.int .i64 f, .int .i64 t, .int .i64 tl, .int .i64 pr, .int .i64 id, .int .i64 (fr + (A : Int) / 8), .bool true, .bool false, .string op, .string (da.extract A (A + R))] := by
              unfold pieceN Pk.L
              rw [Nat.add_mul, Nat.one_mul, ← HA.out]
            rw [e3]
            exact hown4
        case measure => simp [intOf]; omega
      · have hkN : k = N := by omega
        subst hkN
        have hnl : ¬ (k + 1) * R < da.size := fun h => hlt ((HN.out k).2 h)
        rw [e1] at hnl
        obtain ⟨A, hA⟩ : ∃ A, A = k * R := ⟨_, rfl⟩
        have HA : Hid (A = k * R) := hA
        rw [← hA]
        rw [← hA] at hnl hNm
        clear hA e1 hkm
        have g0 : (A : Int) < (da.size : Int) := by omega
        have g1 : (da.size : Int) ≤ (A : Int) + (R : Int) := by omega
        have g7 : 0 ≤ (A : Int) := by omega
        have g2 : (A : Int) ≤ 65535 := by omega
        have g3 : (R : Int) ≤ 65535 := by omega
        have g6 : (A : Int) ≤ (da.size : Int) := by omega
        go_wp2_with (first | (at_builtin; refine wpList_append_own _ rfl _ _ 34 rfl (w.heap.size + 1) 23 i0 (.agg #[.int .i64 0, .int .i64 0, .int .i64 0, .int .i64 0, .int .i64 0, .int .i64 0, .bool false, .bool false, .string ⟨#[]⟩, .string ⟨#[]⟩]) 10 88 Try.underlying34 HI.out HZ0.out HZ1.out HZ2.out rfl (by decide) v k (flatP (firstP ⟨f, t, tl, pr, id, fr, mo, false, op, da⟩ R k)) rfl ((hown.alloc _).alloc _) ⟨wr.heap.size + 1, 0, none⟩ 1 1 [.int .i64 f, .int .i64 t, .int .i64 tl, .int .i64 pr, .int .i64 id, .int .i64 (fr + (A : Int) / 8), .bool mo, .bool false, .string op, .string (da.extract A da.size)] rfl rfl ?c1 (one10 _ _ _ _ _ _ _ _ _ _) ?c3 ?c4 ?c5 ?_))
        case c1 =>
          intro j u hu
          rw [Addr.add_lit, Nat.zero_add]
          have := (At.box (wr.alloc (.cells #[.int .i64 f, .int .i64 t, .int .i64 tl, .int .i64 pr, .int .i64 id, .int .i64 (fr + (A : Int) / 8), .bool mo, .bool false, .string op, .string (da.extract A da.size)] 23)) #[.int .i64 f, .int .i64 t, .int .i64 tl, .int .i64 pr, .int .i64 id, .int .i64 (fr + (A : Int) / 8), .bool mo, .bool false, .string op, .string (da.extract A da.size)] 23).2 j u (by simpa using hu)
          rw [World.size_alloc] at this
          exact this.1
        case c3 => unfold maxLen; omega
        case c4 => omega
        case c5 => simp; omega
        intro v' w4 hown4 hgrow hnil
        have hB1 : Below w.heap.size w w4 := ((n1.alloc (by omega) _).alloc (by simp; omega) _).grown hgrow (by simp; omega) (fun k e => by have := (hown.lt k e).1; omega)
        have hkeep : ∀ k, k < w.heap.size + 1 → w4.heap[k]? = wr.heap[k]? := by
          intro k hk
          have h1 := hgrow.block k (by simp; omega) (fun e => by have := (hown.lt k e.symm).1; omega)
          exact h1.trans (((World.grownBy_alloc _ _ none).block k (by simp; omega) (by simp)).trans ((World.grownBy_alloc _ _ none).block k (by omega) (by simp)))
        have hsz4 : wr.heap.size + 2 ≤ w4.heap.size := by have := hgrow.size; simp at this; omega
        have hp4 : At w4 w.heap.size #[.int .i64 f, .int .i64 t, .int .i64 tl, .int .i64 pr, .int .i64 id, .int .i64 fr, .bool mo, .bool false, .string op, .string da] := ⟨by omega, fun i u h => ⟨(World.cell?_of_block (a := ⟨w.heap.size, i, none⟩) (hkeep w.heap.size (by omega))).trans (n3.2 i u h).1, (World.frozen?_of_block (a := ⟨w.heap.size, i, none⟩) (hkeep w.heap.size (by omega))).trans (n3.2 i u h).2⟩⟩
        clear hgrow hkeep hc5 hc9 c0 c1 c2 c3 c4 c5 c6 c7 c8 c9 hnil
        go_wp2
        go_roundw
        case rel =>
          refine ⟨k + 1, v', allP ⟨f, t, tl, pr, id, fr, mo, false, op, da⟩ R, .inr ⟨rfl, rfl⟩, rfl, ?_, hB1, by omega, hp4, ?_⟩
          · rw [Nat.add_mul, Nat.one_mul, ← HA.out]; go_num
          · rw [HALL.out, flatP_snoc]
            have e3 : (pieceZ ⟨f, t, tl, pr, id, fr, mo, false, op, da⟩ R k).L = [.int .i64 f, .int .i64 t, .int .i64 tl, .int .i64 pr, .int .i64 id, .int .i64 (fr + (A : Int) / 8), .bool mo, .bool false, .string op, .string (da.extract A da.size)] := by
              unfold pieceZ Pk.L
              rw [← HA.out]
            rw [e3]
            exact hown4
        case measure => simp [intOf]; omega

set_option maxRecDepth 100000 in
set_option maxHeartbeats 4000000 in
theorem rpieces_any (f t tl pr id fr : Int) (mo dn : Bool) (op da : ByteArray) (most c : Int) (ps : List Pk) (w : World) (ho : op.size ≤ 1125899906842624) (hd : da.size ≤ 1125899906842624) (h : Cuts f t tl pr id fr mo dn op da most c ps) :
    Calls Try.prog 21 #[.agg #[.int .i64 f, .int .i64 t, .int .i64 tl, .int .i64 pr, .int .i64 id, .int .i64 fr, .bool mo, .bool dn, .string op, .string da], .int .i64 most] w fun e w' => ∃ v, e = .returned (.tuple #[v, .int .i64 c]) ∧ Below w.heap.size w w' ∧ w'.ownsRow w.heap.size 23 10 v ps.length (flatP ps) := by
  have hA := At.box w #[.int .i64 f, .int .i64 t, .int .i64 tl, .int .i64 pr, .int .i64 id, .int .i64 fr, .bool mo, .bool dn, .string op, .string da] 23
  have hl := bel1 w (.cells #[.int .i64 f, .int .i64 t, .int .i64 tl, .int .i64 pr, .int .i64 id, .int .i64 fr, .bool mo, .bool dn, .string op, .string da] 23)
  have ho' : (op.size : Int) ≤ 1125899906842624 := by omega
  have hd' : (da.size : Int) ≤ 1125899906842624 := by omega
  unfold Cuts at h
  rcases h with ⟨rfl, rfl, hm⟩ | ⟨hm, h⟩
  · go_enter Try.func21, Try.ntmps21
    go_wp2_with fail
    refine (rchk_f hm _ ho hd).mono ?_
    rintro e w1 ⟨rfl, hb⟩
    go_wp2
    go_ret2
    exact ⟨_, rfl, bt hl hb, World.ownsRow_nil _ _ _ _⟩
  · have hq := mayP_q hm
    obtain ⟨-, -, -, -, -, ⟨q0, q1⟩, q2, q3, -, q4, -⟩ := hq
    have q3' : (op.size : Int) ≤ 40 := by omega
    have q4' : (da.size : Int) ≤ 65535 := by omega
    rcases h with ⟨rfl, rfl, h1⟩ | ⟨rfl, rfl, h1, h2⟩ | ⟨⟨h1, h2⟩, ⟨rfl, rfl, h3⟩ | ⟨h3, ⟨rfl, rfl, rfl⟩ | ⟨rfl, rfl, hdn⟩⟩⟩
    case inr.inr.inr.inr =>
      obtain ⟨R, hR⟩ : ∃ R : Nat, (R : Int) = (most - (20 + (op.size : Int))) / 8 * 8 := ⟨((most - (20 + (op.size : Int))) / 8 * 8).toNat, by omega⟩
      have hRt : ((most - (20 + (op.size : Int))) / 8 * 8).toNat = R := by omega
      rw [hRt]
      subst hdn
      exact rcut_any f t tl pr id fr mo op da most R w hm h1 h2 h3 hR.symm
    all_goals
      go_enter Try.func21, Try.ntmps21
      go_wp2_with fail
      refine (rchk_t hm _ ho hd).mono ?_
      rintro e w1 ⟨rfl, hb⟩
      replace hl := bt hl hb
      replace hA := hA.later hb
      clear hb
      obtain ⟨⟨c0, c1, c2, c3, c4, c5, c6, c7, c8, c9⟩, -, -⟩ := hA.ten
      have e8 : 8 + (20 + (op.size : Int)) = 28 + (op.size : Int) := by omega
      go_wp2
      go_ret2
      first
        | exact ⟨_, rfl, hl, World.ownsRow_nil _ _ _ _⟩
        | exact ⟨_, rfl, bt hl (bel1 _ _), World.ownsRow_lit w1 #[.int .i64 f, .int .i64 t, .int .i64 tl, .int .i64 pr, .int .i64 id, .int .i64 fr, .bool mo, .bool dn, .string op, .string da] 1 hl.size (by decide) rfl⟩
end Go.Proofs.Ytdnfabcjkbadoaa
