/- The contracts of Pieces of package ip and of the document's: the pieces stand in a row of their own; nothing elder turns. -/
import Derived.Test.YtcjhniehbafhpaaCut
namespace Go.Proofs.Ytcjhniehbafhpaa
open Go.RowKit
set_option maxRecDepth 100000

/-- Which pieces, or which error. -/
def Cuts (f t tl pr id fr : Int) (mo dn : Bool) (op da : ByteArray) (most c : Int) (ps : List Pk) : Prop := (c = 50 ∧ ps = [] ∧ mayP f t tl pr id fr mo op.size da.size = false ∨ mayP f t tl pr id fr mo op.size da.size = true ∧ (c = 1 ∧ ps = [] ∧ most < 28 + (op.size : Int) ∨ c = 1 ∧ ps = [] ∧ 28 + (op.size : Int) ≤ most ∧ 65535 < most ∨ (28 + (op.size : Int) ≤ most ∧ most ≤ 65535) ∧ (c = 0 ∧ ps = [⟨f, t, tl, pr, id, fr, mo, dn, op, da⟩] ∧ 20 + (op.size : Int) + (da.size : Int) ≤ most ∨ most < 20 + (op.size : Int) + (da.size : Int) ∧ (c = 2 ∧ ps = [] ∧ dn = true ∨ c = 0 ∧ ps = allP ⟨f, t, tl, pr, id, fr, mo, dn, op, da⟩ ((most - (20 + (op.size : Int))) / 8 * 8).toNat ∧ dn = false))))

set_option maxRecDepth 100000 in
set_option maxHeartbeats 4000000 in
theorem pieces_any (f t tl pr id fr : Int) (mo dn : Bool) (op da : ByteArray) (most c : Int) (ps : List Pk) (w : World) (ho : op.size ≤ 1125899906842624) (hd : da.size ≤ 1125899906842624) (h : Cuts f t tl pr id fr mo dn op da most c ps) :
    Calls Try.prog 16 #[.agg #[.int .i64 f, .int .i64 t, .int .i64 tl, .int .i64 pr, .int .i64 id, .int .i64 fr, .bool mo, .bool dn, .string op, .string da], .int .i64 most] w fun e w' => ∃ v, e = .returned (.tuple #[v, .int .i64 c]) ∧ Below w.heap.size w w' ∧ w'.ownsRow w.heap.size 32 10 v ps.length (flatP ps) := by
  have hA := At.box w #[.int .i64 f, .int .i64 t, .int .i64 tl, .int .i64 pr, .int .i64 id, .int .i64 fr, .bool mo, .bool dn, .string op, .string da] 32
  have hl := bel1 w (.cells #[.int .i64 f, .int .i64 t, .int .i64 tl, .int .i64 pr, .int .i64 id, .int .i64 fr, .bool mo, .bool dn, .string op, .string da] 32)
  have ho' : (op.size : Int) ≤ 1125899906842624 := by omega
  have hd' : (da.size : Int) ≤ 1125899906842624 := by omega
  unfold Cuts at h
  rcases h with ⟨rfl, rfl, hm⟩ | ⟨hm, h⟩
  · go_enter Try.func16, Try.ntmps16
    go_wp2_with fail
    refine (mp_f hm _ ho hd).mono ?_
    rintro e w1 ⟨rfl, hb⟩
    go_wp2
    go_ret2
    exact ⟨_, rfl, bt hl hb, World.ownsRow_nil _ _ _ _⟩
  · have hq := mayP_q hm
    obtain ⟨-, -, -, -, -, ⟨q0, q1⟩, q2, q3, -, q4, -⟩ := hq
    have q3' : (op.size : Int) ≤ 40 := by omega
    have q4' : (da.size : Int) ≤ 65535 := by omega
    have e8 : 20 + (op.size : Int) + 8 = 28 + (op.size : Int) := by omega
    rcases h with ⟨rfl, rfl, h1⟩ | ⟨rfl, rfl, h1, h2⟩ | ⟨⟨h1, h2⟩, ⟨rfl, rfl, h3⟩ | ⟨h3, ⟨rfl, rfl, rfl⟩ | ⟨rfl, rfl, rfl⟩⟩⟩
    · go_enter Try.func16, Try.ntmps16
      go_wp2_with fail
      refine (mp_t hm _ ho hd).mono ?_
      rintro e w1 ⟨rfl, hb⟩
      replace hl := bt hl hb
      replace hA := hA.later hb
      clear hb
      obtain ⟨⟨c0, c1, c2, c3, c4, c5, c6, c7, c8, c9⟩, -, -⟩ := hA.ten
      go_wp2_with fail
      refine (hl_any _ _ _ _ _ _ _ _ _ _ _ ho).mono ?_
      rintro e w2 ⟨rfl, hb⟩
      replace hl := bt hl hb
      replace hA := hA.later hb
      clear hb c0 c1 c2 c3 c4 c5 c6 c7 c8 c9
      obtain ⟨⟨c0, c1, c2, c3, c4, c5, c6, c7, c8, c9⟩, -, -⟩ := hA.ten
      go_wp2
      go_ret2
      exact ⟨_, rfl, hl, World.ownsRow_nil _ _ _ _⟩
    · go_enter Try.func16, Try.ntmps16
      go_wp2_with fail
      refine (mp_t hm _ ho hd).mono ?_
      rintro e w1 ⟨rfl, hb⟩
      replace hl := bt hl hb
      replace hA := hA.later hb
      clear hb
      obtain ⟨⟨c0, c1, c2, c3, c4, c5, c6, c7, c8, c9⟩, -, -⟩ := hA.ten
      go_wp2_with fail
      refine (hl_any _ _ _ _ _ _ _ _ _ _ _ ho).mono ?_
      rintro e w2 ⟨rfl, hb⟩
      replace hl := bt hl hb
      replace hA := hA.later hb
      clear hb c0 c1 c2 c3 c4 c5 c6 c7 c8 c9
      obtain ⟨⟨c0, c1, c2, c3, c4, c5, c6, c7, c8, c9⟩, -, -⟩ := hA.ten
      go_wp2
      go_ret2
      exact ⟨_, rfl, hl, World.ownsRow_nil _ _ _ _⟩
    · go_enter Try.func16, Try.ntmps16
      go_wp2_with fail
      refine (mp_t hm _ ho hd).mono ?_
      rintro e w1 ⟨rfl, hb⟩
      replace hl := bt hl hb
      replace hA := hA.later hb
      clear hb
      obtain ⟨⟨c0, c1, c2, c3, c4, c5, c6, c7, c8, c9⟩, -, -⟩ := hA.ten
      go_wp2_with fail
      refine (hl_any _ _ _ _ _ _ _ _ _ _ _ ho).mono ?_
      rintro e w2 ⟨rfl, hb⟩
      replace hl := bt hl hb
      replace hA := hA.later hb
      clear hb c0 c1 c2 c3 c4 c5 c6 c7 c8 c9
      obtain ⟨⟨c0, c1, c2, c3, c4, c5, c6, c7, c8, c9⟩, -, -⟩ := hA.ten
      go_wp2
      go_ret2
      exact ⟨_, rfl, bt hl (bel1 _ _), World.ownsRow_lit w2 #[.int .i64 f, .int .i64 t, .int .i64 tl, .int .i64 pr, .int .i64 id, .int .i64 fr, .bool mo, .bool dn, .string op, .string da] 1 hl.size (by decide) rfl⟩
    · go_enter Try.func16, Try.ntmps16
      go_wp2_with fail
      refine (mp_t hm _ ho hd).mono ?_
      rintro e w1 ⟨rfl, hb⟩
      replace hl := bt hl hb
      replace hA := hA.later hb
      clear hb
      obtain ⟨⟨c0, c1, c2, c3, c4, c5, c6, c7, c8, c9⟩, -, -⟩ := hA.ten
      go_wp2_with fail
      refine (hl_any _ _ _ _ _ _ _ _ _ _ _ ho).mono ?_
      rintro e w2 ⟨rfl, hb⟩
      replace hl := bt hl hb
      replace hA := hA.later hb
      clear hb c0 c1 c2 c3 c4 c5 c6 c7 c8 c9
      obtain ⟨⟨c0, c1, c2, c3, c4, c5, c6, c7, c8, c9⟩, -, -⟩ := hA.ten
      go_wp2
      go_ret2
      exact ⟨_, rfl, hl, World.ownsRow_nil _ _ _ _⟩
    · obtain ⟨R, hR⟩ : ∃ R : Nat, (R : Int) = (most - (20 + (op.size : Int))) / 8 * 8 := ⟨((most - (20 + (op.size : Int))) / 8 * 8).toNat, by omega⟩
      have hRt : ((most - (20 + (op.size : Int))) / 8 * 8).toNat = R := by omega
      rw [hRt]
      have hRs : (most - (20 + (op.size : Int))) / 8 * 8 = (R : Int) := hR.symm
      have k1 : 0 ≤ most - (20 + (op.size : Int)) := by omega
      have k2 : most - (20 + (op.size : Int)) ≤ 65535 := by omega
      have k3 : 8 ≤ R := by omega
      have k4 : R ≤ 65535 := by omega
      have k5 : 0 < da.size := by omega
      clear hR hRt
      go_enter Try.func16, Try.ntmps16
      go_wp2_with fail
      refine (mp_t hm _ ho hd).mono ?_
      rintro e w1 ⟨rfl, hb⟩
      replace hl := bt hl hb
      replace hA := hA.later hb
      clear hb
      obtain ⟨⟨c0, c1, c2, c3, c4, c5, c6, c7, c8, c9⟩, -, -⟩ := hA.ten
      go_wp2_with fail
      refine (hl_any _ _ _ _ _ _ _ _ _ _ _ ho).mono ?_
      rintro e w2 ⟨rfl, hb⟩
      replace hl := bt hl hb
      replace hA := hA.later hb
      clear hb c0 c1 c2 c3 c4 c5 c6 c7 c8 c9
      obtain ⟨⟨c0, c1, c2, c3, c4, c5, c6, c7, c8, c9⟩, -, -⟩ := hA.ten
      go_wp2_with fail
      refine (cut_any f t tl pr id fr mo false op da R _ k3 k4 k5 q4' q0 q1).mono ?_
      rintro e w3 ⟨v, rfl, hb, hown⟩
      have hl' := hl
      replace hl := bt hl hb
      go_wp2
      go_ret2
      exact ⟨_, rfl, hl, own_mono hown hl'.size⟩

end Go.Proofs.Ytcjhniehbafhpaa
