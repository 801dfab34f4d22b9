/- The pieces of a packet as plain data, and the contract of cut of package ip: the pieces stand in a row of their own; nothing elder turns. -/
import Derived.Test.YtcjhniehbafhpaaGat
import Derived.Laws.OwnMore
namespace Go.Proofs.Ytcjhniehbafhpaa
open Go.RowKit
set_option maxRecDepth 100000

/-- A packet as plain data. -/
structure Pk where
  f : Int
  t : Int
  tl : Int
  pr : Int
  id : Int
  fr : Int
  mo : Bool
  dn : Bool
  op : ByteArray
  da : ByteArray
def Pk.L (p : Pk) : List Value := [.int .i64 p.f, .int .i64 p.t, .int .i64 p.tl, .int .i64 p.pr, .int .i64 p.id, .int .i64 p.fr, .bool p.mo, .bool p.dn, .string p.op, .string p.da]
theorem Pk.L_len (p : Pk) : p.L.length = 10 := rfl
def flatP (ps : List Pk) : List Value := ps.flatMap Pk.L
theorem flatP_snoc (ps : List Pk) (p : Pk) : flatP (ps ++ [p]) = flatP ps ++ p.L := by simp [flatP]
theorem flatP_len (ps : List Pk) : (flatP ps).length = ps.length * 10 := by
  induction ps with
  | nil => rfl
  | cons p ps ih =>
    have : flatP (p :: ps) = p.L ++ flatP ps := rfl
    rw [this, List.length_append, ih, Pk.L_len, List.length_cons]; omega
theorem flatP_at (ps : List Pk) (i j : Nat) (p : Pk) (hp : ps[i]? = some p) (hj : j < 10) : (flatP ps)[i * 10 + j]? = p.L[j]? := by
  induction ps generalizing i with
  | nil => simp at hp
  | cons q ps ih =>
    have e : flatP (q :: ps) = q.L ++ flatP ps := rfl
    rw [e]
    cases i with
    | zero =>
      simp only [List.getElem?_cons_zero, Option.some.injEq] at hp
      subst hp
      rw [Nat.zero_mul, Nat.zero_add, List.getElem?_append_left (by rw [Pk.L_len]; exact hj)]
    | succ i =>
      simp only [List.getElem?_cons_succ] at hp
      rw [List.getElem?_append_right (by rw [Pk.L_len]; omega), Pk.L_len, show (i + 1) * 10 + j - 10 = i * 10 + j by omega]
      exact ih i hp
/-- The k-th piece of R bytes each: not the last one, or the last one. -/
def pieceN (p : Pk) (R k : Nat) : Pk := { p with fr := p.fr + ((k * R : Nat) : Int) / 8, mo := true, da := p.da.extract (k * R) ((k + 1) * R) }
def pieceZ (p : Pk) (R k : Nat) : Pk := { p with fr := p.fr + ((k * R : Nat) : Int) / 8, da := p.da.extract (k * R) p.da.size }
def firstP (p : Pk) (R k : Nat) : List Pk := (List.range k).map (pieceN p R)
def fullN (L R : Nat) : Nat := (L - 1) / R
def allP (p : Pk) (R : Nat) : List Pk := firstP p R (fullN p.da.size R) ++ [pieceZ p R (fullN p.da.size R)]
theorem firstP_succ (p : Pk) (R k : Nat) : firstP p R (k + 1) = firstP p R k ++ [pieceN p R k] := by simp [firstP, List.range_succ]
theorem firstP_len (p : Pk) (R k : Nat) : (firstP p R k).length = k := by simp [firstP]
theorem allP_len (p : Pk) (R : Nat) : (allP p R).length = fullN p.da.size R + 1 := by simp [allP, firstP_len]
theorem full_lt (L R k : Nat) (hR : 0 < R) (hL : 0 < L) : k < fullN L R ↔ (k + 1) * R < L := by
  unfold fullN
  rw [← Nat.succ_le_iff, Nat.le_div_iff_mul_le hR]
  show (k + 1) * R ≤ L - 1 ↔ _
  omega
theorem full_mul (L R : Nat) (hL : 0 < L) : fullN L R * R < L := by
  unfold fullN
  have := Nat.div_mul_le_self (L - 1) R
  omega
theorem own_mono {w : World} {base base' : Nat} {e : TypeId} {size n : Nat} {v : Value} {xs : List Value} (h : w.ownsRow base e size v n xs) (hb : base' ≤ base) : w.ownsRow base' e size v n xs := by
  refine ⟨h.1, ?_⟩
  rcases h.2 with h | ⟨g, cap, cur, hv, hg, rest⟩
  · exact .inl h
  · exact .inr ⟨g, cap, cur, hv, by omega, rest⟩
theorem own_later {w x : World} {base : Nat} {e : TypeId} {size n : Nat} {v : Value} {xs : List Value} (h : w.ownsRow base e size v n xs) (hb : Below w.heap.size w x) : x.ownsRow base e size v n xs := by
  refine ⟨h.1, ?_⟩
  rcases h.2 with h | ⟨g, cap, cur, hv, hg, hc, rest⟩
  · exact .inl h
  · refine .inr ⟨g, cap, cur, hv, hg, ?_, rest⟩
    rw [hb.block g (Array.getElem?_eq_some_iff.1 hc).1]
    exact hc

set_option maxRecDepth 100000 in
set_option maxHeartbeats 4000000 in
theorem cut_any (f t tl pr id fr : Int) (mo dn : Bool) (op da : ByteArray) (R : Nat) (w : World) (hR : 8 ≤ R) (hR2 : R ≤ 65535) (hd0 : 0 < da.size) (hd : (da.size : Int) ≤ 65535) (hf0 : 0 ≤ fr) (hf1 : fr ≤ 8191) :
    Calls Try.prog 32 #[.agg #[.int .i64 f, .int .i64 t, .int .i64 tl, .int .i64 pr, .int .i64 id, .int .i64 fr, .bool mo, .bool dn, .string op, .string da], .int .i64 (R : Int)] w fun e w' => ∃ v, e = .returned v ∧ Below w.heap.size w w' ∧ w'.ownsRow w.heap.size 32 10 v (allP ⟨f, t, tl, pr, id, fr, mo, dn, op, da⟩ R).length (flatP (allP ⟨f, t, tl, pr, id, fr, mo, dn, op, da⟩ R)) := by
  have hp := (At.box w #[.int .i64 f, .int .i64 t, .int .i64 tl, .int .i64 pr, .int .i64 id, .int .i64 fr, .bool mo, .bool dn, .string op, .string da] 32).later (bel1 _ (.cells #[.slice none 0 0] 36))
  have hB := At.box2 w (.cells #[.int .i64 f, .int .i64 t, .int .i64 tl, .int .i64 pr, .int .i64 id, .int .i64 fr, .bool mo, .bool dn, .string op, .string da] 32) #[.slice none 0 0] 36
  have hbel := bt (bel1 w (.cells #[.int .i64 f, .int .i64 t, .int .i64 tl, .int .i64 pr, .int .i64 id, .int .i64 fr, .bool mo, .bool dn, .string op, .string da] 32)) (bel1 _ (.cells #[.slice none 0 0] 36))
  have hN : ∀ k, k < fullN da.size R ↔ (k + 1) * R < da.size := fun k => full_lt da.size R k (by omega) hd0
  have hNm := full_mul da.size R hd0
  generalize hNe : fullN da.size R = N at *
  have HN : Hid (∀ k, k < N ↔ (k + 1) * R < da.size) := hN
  have HE : Hid (fullN da.size R = N) := hNe
  clear hN hNe
  have hNs : N ≤ 65535 := by
    apply Classical.byContradiction; intro h
    have h1 : N * 8 ≤ N * R := Nat.mul_le_mul_left N hR
    omega
  go_enter Try.func32, Try.ntmps32
  go_wp2_with fail
  have hst : Below w.heap.size w ((w.alloc (.cells #[.int .i64 f, .int .i64 t, .int .i64 tl, .int .i64 pr, .int .i64 id, .int .i64 fr, .bool mo, .bool dn, .string op, .string da] 32)).alloc (.cells #[.slice none 0 0] 36)) ∧ w.heap.size + 2 ≤ ((w.alloc (.cells #[.int .i64 f, .int .i64 t, .int .i64 tl, .int .i64 pr, .int .i64 id, .int .i64 fr, .bool mo, .bool dn, .string op, .string da] 32)).alloc (.cells #[.slice none 0 0] 36)).heap.size ∧ At ((w.alloc (.cells #[.int .i64 f, .int .i64 t, .int .i64 tl, .int .i64 pr, .int .i64 id, .int .i64 fr, .bool mo, .bool dn, .string op, .string da] 32)).alloc (.cells #[.slice none 0 0] 36)) w.heap.size #[.int .i64 f, .int .i64 t, .int .i64 tl, .int .i64 pr, .int .i64 id, .int .i64 fr, .bool mo, .bool dn, .string op, .string da] ∧ At ((w.alloc (.cells #[.int .i64 f, .int .i64 t, .int .i64 tl, .int .i64 pr, .int .i64 id, .int .i64 fr, .bool mo, .bool dn, .string op, .string da] 32)).alloc (.cells #[.slice none 0 0] 36)) (w.heap.size + 1) #[.slice none 0 0] := ⟨hbel, by simp, hp, hB⟩
  clear hbel hp hB
  go_loopw [7] (fun at_ W => ∃ (k : Nat) (v : Value), k ≤ N ∧ at_ = .int .i64 ((k * R : Nat) : Int) ∧ Below w.heap.size w W ∧ w.heap.size + 2 ≤ W.heap.size ∧ At W w.heap.size #[.int .i64 f, .int .i64 t, .int .i64 tl, .int .i64 pr, .int .i64 id, .int .i64 fr, .bool mo, .bool dn, .string op, .string da] ∧ At W (w.heap.size + 1) #[v] ∧ W.ownsRow (w.heap.size + 2) 32 10 v k (flatP (firstP ⟨f, t, tl, pr, id, fr, mo, dn, op, da⟩ R k))) (fun at_ _ => N * R - (intOf at_).toNat)
  case atStart =>
    exact ⟨0, .slice none 0 0, Nat.zero_le _, by simp, hst.1, hst.2.1, hst.2.2.1, hst.2.2.2, World.ownsRow_nil _ _ _ _⟩
  case round =>
    obtain ⟨k, v, hk, rfl, h1, h2, h3, h4, h5⟩ := hrel
    clear hst
    have hkm : k * R ≤ N * R := Nat.mul_le_mul_right R hk
    have c9 := (h3.2 9 _ rfl).1
    have c6 := (h3.2 6 _ rfl).1
    by_cases hlt : k < N
    · have hk1 := (HN.out k).1 hlt
      have e1 : (k + 1) * R = k * R + R := by rw [Nat.add_mul, Nat.one_mul]
      have hkN : (k + 1) * R ≤ N * R := Nat.mul_le_mul_right R hlt
      obtain ⟨A, hA⟩ : ∃ A, A = k * R := ⟨_, rfl⟩
      have HA : Hid (A = k * R) := hA
      rw [← hA]
      rw [e1] at hk1 hkN
      rw [← hA] at hk1 hkm hkN
      clear hA e1
      have g1 : (R : Int) < (da.size : Int) - (A : Int) := by omega
      have g2 : (A : Int) ≤ 65535 := by omega
      have g3 : (R : Int) ≤ 65535 := by omega
      go_wp2_with fail
      refine (gather_any f t tl pr id fr mo dn op da (A : Int) ((A : Int) + (R : Int)) true w wr w.heap.size w.heap.size (w.heap.size + 1) (w.heap.size + 2) k v _ (by omega) (by omega) (by omega) hd hf0 hf1 (by omega) h1 (Nat.le_refl _) (Nat.le_succ _) (by omega) (by omega) h2 h3 h4 h5).mono ?_
      rintro e w' ⟨v', rfl, n1, n2, n3, n4, n5, n6⟩
      go_wp2
      go_roundw
      case rel =>
        refine ⟨k + 1, v', hlt, ?_, n1, n2, n3, n4, ?_⟩
        · rw [Nat.add_mul, Nat.one_mul, ← HA.out]; go_num
        · rw [firstP_succ, flatP_snoc]
          have e3 : (pieceN ⟨f, t, tl, pr, id, fr, mo, dn, op, da⟩ R k).L = [.int .i64 f, .int .i64 t, .int .i64 tl, .int .i64 pr, .int .i64 id, .int .i64 (fr + (A : Int) / 8), .bool true, .bool dn, .string op, .string (da.extract (A : Int).toNat ((A : Int) + (R : Int)).toNat)] := by
            unfold pieceN Pk.L
            rw [Nat.add_mul, Nat.one_mul, ← HA.out]
            rfl
          rw [e3]
          exact n5
      case measure => simp [intOf]; omega
    · have hkN : k = N := by omega
      subst hkN
      have hnl : ¬ (k + 1) * R < da.size := fun h => hlt ((HN.out k).2 h)
      have e1 : (k + 1) * R = k * R + R := by rw [Nat.add_mul, Nat.one_mul]
      rw [e1] at hnl
      obtain ⟨A, hA⟩ : ∃ A, A = k * R := ⟨_, rfl⟩
      have HA : Hid (A = k * R) := hA
      rw [← hA]
      rw [← hA] at hnl hNm
      clear hA e1 hkm
      have g1 : ¬ (R : Int) < (da.size : Int) - (A : Int) := by omega
      have g2 : (A : Int) ≤ 65535 := by omega
      have g3 : (R : Int) ≤ 65535 := by omega
      go_wp2_with fail
      refine (gather_any f t tl pr id fr mo dn op da (A : Int) (da.size : Int) mo w wr w.heap.size w.heap.size (w.heap.size + 1) (w.heap.size + 2) k v _ (by omega) (by omega) (by omega) hd hf0 hf1 (by omega) h1 (Nat.le_refl _) (Nat.le_succ _) (by omega) (by omega) h2 h3 h4 h5).mono ?_
      rintro e w' ⟨v', rfl, n1, n2, n3, n4, n5, n6⟩
      have cB := (n4.2 0 v' rfl).1
      obtain ⟨g, cap, rfl⟩ : ∃ g cap, v' = .slice (some ⟨g, 0, none⟩) (k + 1) cap := by
        rcases n5.2 with ⟨h, _⟩ | ⟨g, cap, cur, h, _⟩
        · exact absurd h n6
        · exact ⟨g, cap, h⟩
      go_wp2
      go_ret
      refine ⟨_, rfl, n1, ?_⟩
      have e4 : (allP ⟨f, t, tl, pr, id, fr, mo, dn, op, da⟩ R).length = k + 1 := by rw [allP_len]; show fullN da.size R + 1 = _; rw [HE.out]
      have e5 : flatP (allP ⟨f, t, tl, pr, id, fr, mo, dn, op, da⟩ R) = flatP (firstP ⟨f, t, tl, pr, id, fr, mo, dn, op, da⟩ R k) ++ [.int .i64 f, .int .i64 t, .int .i64 tl, .int .i64 pr, .int .i64 id, .int .i64 (fr + (A : Int) / 8), .bool mo, .bool dn, .string op, .string (da.extract (A : Int).toNat (da.size : Int).toNat)] := by
        unfold allP
        rw [flatP_snoc]
        show flatP (firstP ⟨f, t, tl, pr, id, fr, mo, dn, op, da⟩ R (fullN da.size R)) ++ (pieceZ ⟨f, t, tl, pr, id, fr, mo, dn, op, da⟩ R (fullN da.size R)).L = _
        rw [HE.out]
        congr 1
        unfold pieceZ Pk.L
        rw [← HA.out]
        rfl
      rw [e4, e5]
      exact own_mono n5 (by omega)
end Go.Proofs.Ytcjhniehbafhpaa
