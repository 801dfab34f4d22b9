/- the texts PWhl, Ics, Icd, in part, merged by program -/
import Derived.Test.YthjbmloemmggaaaGreatDoorRows
import Derived.WalkKit
import Derived.WalkSpells
import Derived.Laws.OwnMore
import Derived.Deep.RegionWith
import Derived.Laws.AppendOwn
import Derived.Laws.AppendOwnNone
import Derived.Carry
import Derived.Deep.RegionHeld3
import Derived.Deep.QuietTactic
import Derived.BigQuiet
import Derived.WalkSmall
import Derived.LoopN
import Derived.Test.YthjbmloemmggaaaGreatDoorMA01
import Derived.Test.YthjbmloemmggaaaGreatDoorMA04
import Derived.Test.YthjbmloemmggaaaGreatDoorMA05
namespace Go.Proofs.YthjbmloemmggaaaGreatDoor.Ip
open Go.RowKit
set_option maxRecDepth 100000

def catD (ps : List Pk) : ByteArray := ps.foldl (fun a q => a ++ q.da) ⟨#[]⟩
theorem catD_snoc (ps : List Pk) (q : Pk) : catD (ps ++ [q]) = catD ps ++ q.da := by simp [catD]
theorem ext_all (s : ByteArray) : s.extract 0 s.size = s := by
  apply ba_toList
  rw [ext_toList, List.drop_zero, Nat.sub_zero, ← len_toList, List.take_length]
theorem ext_none (s : ByteArray) (a : Nat) : s.extract a a = ⟨#[]⟩ := by
  apply ba_toList
  rw [ext_toList, Nat.sub_self, List.take_zero]
theorem catD_first (p : Pk) (R k : Nat) : catD (firstP p R k) = p.da.extract 0 (k * R) := by
  induction k with
  | zero => rw [Nat.zero_mul, ext_none]; rfl
  | succ k ih =>
    rw [firstP_succ, catD_snoc, ih]
    show p.da.extract 0 (k * R) ++ p.da.extract (k * R) ((k + 1) * R) = _
    exact ext_join _ _ _ _ (Nat.zero_le _) (Nat.mul_le_mul_right R (Nat.le_succ k))
theorem catD_all (p : Pk) (R : Nat) (h : 0 < p.da.size) : catD (allP p R) = p.da := by
  unfold allP
  rw [catD_snoc, catD_first]
  show p.da.extract 0 _ ++ p.da.extract (fullN p.da.size R * R) p.da.size = _
  rw [ext_join _ _ _ _ (Nat.zero_le _) (Nat.le_of_lt (full_mul _ R h)), ext_all]

theorem all_at (p : Pk) (R i : Nat) (q : Pk) (h : (allP p R)[i]? = some q) : i < fullN p.da.size R ∧ q = pieceN p R i ∨ i = fullN p.da.size R ∧ q = pieceZ p R i := by
  unfold allP at h
  by_cases hi : i < fullN p.da.size R
  · rw [List.getElem?_append_left (by rw [firstP_len]; exact hi)] at h
    simp only [firstP, List.getElem?_map, List.getElem?_range hi, Option.map_some, Option.some.injEq] at h
    exact .inl ⟨hi, h.symm⟩
  · rw [List.getElem?_append_right (by rw [firstP_len]; omega), firstP_len] at h
    have : i - fullN p.da.size R = 0 := by
      apply Classical.byContradiction; intro hn
      rw [List.getElem?_eq_none (by simp; omega)] at h
      cases h
    have hi2 : i = fullN p.da.size R := by omega
    rw [this] at h
    simp only [List.getElem?_cons_zero, Option.some.injEq] at h
    exact .inr ⟨hi2, by rw [hi2]; exact h.symm⟩

structure Good (f t tl pr id fr : Int) (mo dn : Bool) (op da : ByteArray) (most : Int) (ps : List Pk) (i : Nat) (q : Pk) : Prop where
  ef : q.f = f
  et : q.t = t
  etl : q.tl = tl
  epr : q.pr = pr
  eid : q.id = id
  edn : q.dn = dn
  eop : q.op = op
  may : mayP f t tl pr id q.fr q.mo op.size q.da.size = true
  size : 20 + (op.size : Int) + (q.da.size : Int) ≤ most
  more : (i + 1 < ps.length → q.mo = true) ∧ (i + 1 = ps.length → q.mo = mo)
  first : i = 0 → q.fr = fr
  next : ∀ q', ps[i + 1]? = some q' → q'.fr = q.fr + (q.da.size : Int) / 8

theorem good_cut (f t tl pr id fr : Int) (mo dn : Bool) (op da : ByteArray) (most : Int) (R : Nat) (hm : mayP f t tl pr id fr mo op.size da.size = true) (h1 : 28 + (op.size : Int) ≤ most) (h2 : most ≤ 65535) (h3 : most < 20 + (op.size : Int) + (da.size : Int)) (hR : (R : Int) = (most - (20 + (op.size : Int))) / 8 * 8)
    (i : Nat) (q : Pk) (hq : (allP ⟨f, t, tl, pr, id, fr, mo, dn, op, da⟩ R)[i]? = some q) : Good f t tl pr id fr mo dn op da most (allP ⟨f, t, tl, pr, id, fr, mo, dn, op, da⟩ R) i q := by
  obtain ⟨⟨f0, f1⟩, ⟨t0, t1⟩, ⟨l0, l1⟩, ⟨p0, p1⟩, ⟨i0, i1⟩, ⟨r0, r1⟩, o4, o40, hmo, hz, hz2⟩ := mayP_q hm
  have hR8 : 8 ≤ R := by omega
  have hRm : R % 8 = 0 := by omega
  have hd0 : 0 < da.size := by omega
  have hlen : (allP ⟨f, t, tl, pr, id, fr, mo, dn, op, da⟩ R).length = fullN da.size R + 1 := allP_len _ _
  have hN : ∀ k, k < fullN da.size R ↔ (k + 1) * R < da.size := fun k => full_lt da.size R k (by omega) hd0
  have hNm := full_mul da.size R hd0
  have hk8 : ∀ k, (k * R) % 8 = 0 := fun k => by rw [Nat.mul_mod, hRm]; simp
  have hs : ∀ k, (k + 1) * R = k * R + R := fun k => by rw [Nat.add_mul, Nat.one_mul]
  have key : q.fr = fr + ((i * R : Nat) : Int) / 8 ∧ q.f = f ∧ q.t = t ∧ q.tl = tl ∧ q.pr = pr ∧ q.id = id ∧ q.dn = dn ∧ q.op = op ∧ (i < fullN da.size R ∧ q.mo = true ∧ q.da.size = R ∧ i * R + R < da.size ∨ i = fullN da.size R ∧ q.mo = mo ∧ q.da.size = da.size - i * R ∧ i * R < da.size ∧ da.size ≤ i * R + R) := by
    rcases all_at _ _ _ _ hq with ⟨hi, rfl⟩ | ⟨hi, rfl⟩
    · refine ⟨rfl, rfl, rfl, rfl, rfl, rfl, rfl, rfl, .inl ⟨hi, rfl, ?_, ?_⟩⟩
      · show (da.extract (i * R) ((i + 1) * R)).size = R
        have := (hN i).1 hi
        rw [ByteArray.size_extract, hs]; rw [hs] at this; omega
      · have := (hN i).1 hi; rw [hs] at this; exact this
    · have hi' : i = fullN da.size R := hi
      refine ⟨rfl, rfl, rfl, rfl, rfl, rfl, rfl, rfl, .inr ⟨hi', rfl, ?_, ?_, ?_⟩⟩
      · show (da.extract (i * R) da.size).size = _
        rw [ByteArray.size_extract]; omega
      · rw [hi']; exact hNm
      · have : ¬ (i + 1) * R < da.size := fun h => by have := (hN i).2 h; omega
        rw [hs] at this; omega
  obtain ⟨e1, e2, e3, e4, e5, e6, e7, e8, e9⟩ := key
  have h8 := hk8 i
  refine ⟨e2, e3, e4, e5, e6, e7, e8, ?_, ?_, ?_, ?_, ?_⟩
  · apply mayP_t
    rw [e1]
    generalize i * R = A at *
    refine ⟨⟨f0, f1⟩, ⟨t0, t1⟩, ⟨l0, l1⟩, ⟨p0, p1⟩, ⟨i0, i1⟩, ?_, o4, o40, ?_, ?_, ?_⟩
    · rcases e9 with ⟨-, -, a, b⟩ | ⟨-, -, a, b, c⟩ <;> omega
    · rcases e9 with ⟨-, -, a, b⟩ | ⟨-, m, a, b, c⟩
      · intro _; omega
      · intro hq
        rw [m] at hq
        have := hmo hq
        omega
    · rcases e9 with ⟨-, -, a, b⟩ | ⟨-, -, a, b, c⟩ <;> omega
    · rcases e9 with ⟨-, -, a, b⟩ | ⟨-, -, a, b, c⟩ <;> omega
  · rcases e9 with ⟨-, -, a, b⟩ | ⟨-, -, a, b, c⟩ <;> omega
  · rw [hlen]
    rcases e9 with ⟨hi, m, -, -⟩ | ⟨hi, m, -, -, -⟩
    · exact ⟨fun _ => m, fun h => by omega⟩
    · exact ⟨fun h => by omega, fun _ => m⟩
  · intro h0; rw [e1, h0]; simp
  · intro q' hq'
    have hil : i + 1 < (allP ⟨f, t, tl, pr, id, fr, mo, dn, op, da⟩ R).length := (List.getElem?_eq_some_iff.1 hq').1
    rw [hlen] at hil
    have e1' : q'.fr = fr + (((i + 1) * R : Nat) : Int) / 8 := by
      rcases all_at _ _ _ _ hq' with ⟨-, rfl⟩ | ⟨-, rfl⟩ <;> rfl
    rw [e1', e1, hs]
    rcases e9 with ⟨hi, m, a, -⟩ | ⟨hi, m, -, -, -⟩
    · rw [a]; generalize i * R = A at *; omega
    · omega
theorem good_one (f t tl pr id fr : Int) (mo dn : Bool) (op da : ByteArray) (most : Int) (hm : mayP f t tl pr id fr mo op.size da.size = true) (h3 : 20 + (op.size : Int) + (da.size : Int) ≤ most)
    (i : Nat) (q : Pk) (hq : ([⟨f, t, tl, pr, id, fr, mo, dn, op, da⟩] : List Pk)[i]? = some q) : Good f t tl pr id fr mo dn op da most [⟨f, t, tl, pr, id, fr, mo, dn, op, da⟩] i q := by
  have hi : i = 0 := by have := (List.getElem?_eq_some_iff.1 hq).1; simp at this; exact this
  subst hi
  obtain rfl := Option.some.inj hq
  exact ⟨rfl, rfl, rfl, rfl, rfl, rfl, rfl, hm, h3, ⟨fun h => by simp at h, fun _ => rfl⟩, fun _ => rfl, fun q' h => by simp at h⟩

theorem cuts_good (f t tl pr id fr : Int) (mo dn : Bool) (op da : ByteArray) (most : Int) : ∃ c ps, Cuts f t tl pr id fr mo dn op da most c ps ∧ ps.length ≤ 65536 ∧ (¬ c = 0 ∧ ps = [] ∧ (mayP f t tl pr id fr mo op.size da.size = true → 28 + (op.size : Int) ≤ most → most ≤ 65535 → c = 2 ∧ dn = true) ∨ c = 0 ∧ catD ps = da ∧ ∀ i q, ps[i]? = some q → Good f t tl pr id fr mo dn op da most ps i q) := by
  unfold Cuts
  cases hm : mayP f t tl pr id fr mo op.size da.size
  · exact ⟨50, [], .inl ⟨rfl, rfl, rfl⟩, by simp, .inl ⟨by decide, rfl, fun h => by cases h⟩⟩
  · have hq := mayP_q hm
    obtain ⟨-, -, -, -, -, -, -, -, -, hz, -⟩ := hq
    by_cases h1 : most < 28 + (op.size : Int)
    · exact ⟨1, [], .inr ⟨rfl, .inl ⟨rfl, rfl, h1⟩⟩, by simp, .inl ⟨by decide, rfl, fun _ h => by omega⟩⟩
    · by_cases h2 : 65535 < most
      · exact ⟨1, [], .inr ⟨rfl, .inr (.inl ⟨rfl, rfl, by omega, h2⟩)⟩, by simp, .inl ⟨by decide, rfl, fun _ _ h => by omega⟩⟩
      · by_cases h3 : 20 + (op.size : Int) + (da.size : Int) ≤ most
        · exact ⟨0, [⟨f, t, tl, pr, id, fr, mo, dn, op, da⟩], .inr ⟨rfl, .inr (.inr ⟨⟨by omega, by omega⟩, .inl ⟨rfl, rfl, h3⟩⟩)⟩, by simp, .inr ⟨rfl, by apply ba_toList; simp [catD], fun i q hq => good_one f t tl pr id fr mo dn op da most hm h3 i q hq⟩⟩
        · cases hd : dn
          · have hR : ((((most - (20 + (op.size : Int))) / 8 * 8).toNat : Nat) : Int) = (most - (20 + (op.size : Int))) / 8 * 8 := by omega
            refine ⟨0, _, .inr ⟨rfl, .inr (.inr ⟨⟨by omega, by omega⟩, .inr ⟨by omega, .inr ⟨rfl, rfl, rfl⟩⟩⟩)⟩, ?_, .inr ⟨rfl, catD_all _ _ (by show 0 < da.size; omega), fun i q hq => good_cut f t tl pr id fr mo false op da most _ hm (by omega) (by omega) (by omega) hR i q hq⟩⟩
            rw [allP_len]
            show fullN da.size _ + 1 ≤ _
            have := Nat.div_le_self (da.size - 1) ((most - (20 + (op.size : Int))) / 8 * 8).toNat
            unfold fullN
            omega
          · exact ⟨2, [], .inr ⟨rfl, .inr (.inr ⟨⟨by omega, by omega⟩, .inr ⟨by omega, .inl ⟨rfl, rfl, rfl⟩⟩⟩)⟩, by simp, .inl ⟨by decide, rfl, fun _ _ _ => ⟨rfl, rfl⟩⟩⟩
end Go.Proofs.YthjbmloemmggaaaGreatDoor.Ip

namespace Go.Proofs.YthjbmloemmggaaaGreatDoor.Ip
open Go.RowKit
set_option maxRecDepth 100000
theorem At.five {W : World} {b : Nat} {v0 v1 v2 v3 v4 : Value} (h : At W b #[v0, v1, v2, v3, v4]) : (W.cell? ⟨b, 0, none⟩ = some v0 ∧ W.cell? ⟨b, 1, none⟩ = some v1 ∧ W.cell? ⟨b, 2, none⟩ = some v2 ∧ W.cell? ⟨b, 3, none⟩ = some v3 ∧ W.cell? ⟨b, 4, none⟩ = some v4) ∧ (W.frozen? ⟨b, 0, none⟩ = false ∧ W.frozen? ⟨b, 1, none⟩ = false ∧ W.frozen? ⟨b, 2, none⟩ = false ∧ W.frozen? ⟨b, 3, none⟩ = false ∧ W.frozen? ⟨b, 4, none⟩ = false) ∧ b < W.heap.size :=
  ⟨⟨(h.2 0 _ rfl).1, (h.2 1 _ rfl).1, (h.2 2 _ rfl).1, (h.2 3 _ rfl).1, (h.2 4 _ rfl).1⟩, ⟨(h.2 0 _ rfl).2, (h.2 1 _ rfl).2, (h.2 2 _ rfl).2, (h.2 3 _ rfl).2, (h.2 4 _ rfl).2⟩, h.1⟩
theorem below5 {w W : World} {b : Nat} (h : Below w.heap.size w W) (hb : w.heap.size ≤ b) (v0 v1 v2 v3 v4 : Value) : Below w.heap.size w (((((W.setCell ⟨b, 0, none⟩ v0).setCell ⟨b, 1, none⟩ v1).setCell ⟨b, 2, none⟩ v2).setCell ⟨b, 3, none⟩ v3).setCell ⟨b, 4, none⟩ v4) :=
  ((((h.setCell hb _).setCell hb _).setCell hb _).setCell hb _).setCell hb _

end Go.Proofs.YthjbmloemmggaaaGreatDoor.Ip

namespace Go.Proofs.YthjbmloemmggaaaGreatDoor.Ip
open Go.RowKit
set_option maxRecDepth 100000

def iTy (s : ByteArray) : Int := numS (s.extract 0 1)
def iCo (s : ByteArray) : Int := numS (s.extract 1 2)
def iX (s : ByteArray) : Int := numS (s.extract 4 6)
def iY (s : ByteArray) : Int := numS (s.extract 6 8)
def iDa (s : ByteArray) : ByteArray := s.extract 8 s.size
theorem iget_c (s : ByteArray) (off k : Int) (w : World) (hs : s.size ≤ maxLen) : Calls Tryz.prog 84 #[.string s, .int .i64 off, .int .i64 k] w fun e w' => e = .returned (.int .i64 (getV s off k)) ∧ Below w.heap.size w w' := by
  go_enter Tryz.func84, Tryz.ntmps84
  go_wp2_with fail
  refine (get_any s off k _ hs).mono ?_
  rintro e w1 ⟨rfl, hb⟩
  go_wp2
  go_ret
  exact ⟨rfl, hb⟩
theorem igetV_is (s : ByteArray) (off k : Int) (a b : Nat) (ha : off = a) (hb : off + k = b) (hk : 1 ≤ k ∧ k ≤ 6) (h8 : 8 ≤ (s.size : Int)) (h : off + k ≤ 8) : getV s off k = numS (s.extract a b) := by
  unfold getV
  rw [getB_t ⟨hk.1, hk.2, by omega, by omega⟩, if_pos rfl, hb, ha]
  rfl
theorem iwh_t {s : ByteArray} (h : (sumS s == 0) = true) (w : World) (hs : s.size ≤ 140737488355328) : Calls Tryz.prog 65 #[.string s] w fun e w' => e = .returned (.bool true) ∧ Below w.heap.size w w' := by
  have := whole_any s w hs; rw [h] at this; exact this
theorem iwh_f {s : ByteArray} (h : (sumS s == 0) = false) (w : World) (hs : s.size ≤ 140737488355328) : Calls Tryz.prog 65 #[.string s] w fun e w' => e = .returned (.bool false) ∧ Below w.heap.size w w' := by
  have := whole_any s w hs; rw [h] at this; exact this

set_option maxHeartbeats 1000000 in
theorem idec_1 {s : ByteArray} (h : (s.size : Int) < 8 ∨ 8 ≤ (s.size : Int) ∧ 65508 < (s.size : Int)) (w : World) (hs : s.size ≤ 1125899906842624) :
    Calls Tryz.prog 67 #[.string s] w fun e w' => e = .returned (.tuple #[.agg #[.int .i64 0, .int .i64 0, .int .i64 0, .int .i64 0, .string ⟨#[]⟩], .int .i64 60]) ∧ Below w.heap.size w w' := by
  have hs' : (s.size : Int) ≤ 1125899906842624 := by omega
  have hl := bel1 w (.cells #[.int .i64 0, .int .i64 0, .int .i64 0, .int .i64 0, .string ⟨#[]⟩] 49)
  rcases h with h | ⟨h, h2⟩
  all_goals
    go_enter Tryz.func67, Tryz.ntmps67
    go_wp2
    exact bodyPost_ret (v := .tuple #[.agg #[.int .i64 0, .int .i64 0, .int .i64 0, .int .i64 0, .string ⟨#[]⟩], .int .i64 60]) (by simp [results, Tryz.results67, go_sem]) rfl ⟨rfl, hl⟩
set_option maxHeartbeats 1000000 in
theorem idec_2 {s : ByteArray} (h8 : 8 ≤ (s.size : Int)) (h9 : (s.size : Int) ≤ 65508) (h : (sumS s == 0) = false) (w : World) :
    Calls Tryz.prog 67 #[.string s] w fun e w' => e = .returned (.tuple #[.agg #[.int .i64 0, .int .i64 0, .int .i64 0, .int .i64 0, .string ⟨#[]⟩], .int .i64 20]) ∧ Below w.heap.size w w' := by
  have hl := bel1 w (.cells #[.int .i64 0, .int .i64 0, .int .i64 0, .int .i64 0, .string ⟨#[]⟩] 49)
  have hR := At.box w #[.int .i64 0, .int .i64 0, .int .i64 0, .int .i64 0, .string ⟨#[]⟩] 49
  go_enter Tryz.func67, Tryz.ntmps67
  go_wp2_with fail
  refine (iwh_f h _ (by omega)).mono ?_
  rintro e w1 ⟨rfl, hb⟩
  have hl := bt hl hb
  obtain ⟨⟨r0, r1, r2, r3, r4⟩, ⟨f0, f1, f2, f3, f4⟩, hlt⟩ := (hR.later hb).five
  clear hR hb
  go_wp2
  exact bodyPost_ret (v := .tuple #[.agg #[.int .i64 0, .int .i64 0, .int .i64 0, .int .i64 0, .string ⟨#[]⟩], .int .i64 20]) (by simp [results, Tryz.results67, go_sem, r0, r1, r2, r3, r4]) rfl ⟨rfl, below5 hl (Nat.le_refl _) _ _ _ _ _⟩
set_option maxRecDepth 100000 in
set_option maxHeartbeats 4000000 in
theorem idec_3 {s : ByteArray} (h8 : 8 ≤ (s.size : Int)) (h9 : (s.size : Int) ≤ 65508) (h : (sumS s == 0) = true) (w : World) :
    Calls Tryz.prog 67 #[.string s] w fun e w' => e = .returned (.tuple #[.agg #[.int .i64 (iTy s), .int .i64 (iCo s), .int .i64 (iX s), .int .i64 (iY s), .string (iDa s)], .int .i64 0]) ∧ Below w.heap.size w w' := by
  have hsm : s.size ≤ maxLen := by unfold maxLen; omega
  have hl := bel1 w (.cells #[.int .i64 0, .int .i64 0, .int .i64 0, .int .i64 0, .string ⟨#[]⟩] 49)
  have hR := At.box w #[.int .i64 0, .int .i64 0, .int .i64 0, .int .i64 0, .string ⟨#[]⟩] 49
  have e1 : getV s 0 1 = iTy s := igetV_is s 0 1 0 1 rfl rfl (by decide) h8 (by decide)
  have e2 : getV s 1 1 = iCo s := igetV_is s 1 1 1 2 rfl rfl (by decide) h8 (by decide)
  have e3 : getV s 4 2 = iX s := igetV_is s 4 2 4 6 rfl rfl (by decide) h8 (by decide)
  have e4 : getV s 6 2 = iY s := igetV_is s 6 2 6 8 rfl rfl (by decide) h8 (by decide)
  have x1 : s.extract 8 s.size = iDa s := rfl
  have hg := fun W off k => iget_c s off k W hsm
  have hwh := fun W => iwh_t h W (by omega)
  clear h
  generalize iTy s = X1 at *
  generalize iCo s = X2 at *
  generalize iX s = X3 at *
  generalize iY s = X4 at *
  generalize iDa s = X5 at *
  go_enter Tryz.func67, Tryz.ntmps67
  go_wp2_with fail
  refine (hwh _).mono ?_
  rintro e w1 ⟨rfl, hb⟩
  have hl := bt hl hb
  replace hR := hR.later hb
  clear hb hwh
  have hR : At w1.drew w.heap.size #[.int .i64 0, .int .i64 0, .int .i64 0, .int .i64 0, .string ⟨#[]⟩] := hR
  have hl : Below w.heap.size w w1.drew := hl.drew
  go_wp2
  go_region_with (first | (go_at_call 84; refine (hg _ _ _).mono ?_; rintro e w' ⟨rfl, hb⟩; replace hl := bt hl hb; replace hR := hR.later hb; clear hb; (try clear hx); have hx := hR.five))
  all_goals
    obtain ⟨⟨r0, r1, r2, r3, r4⟩, -, hlt⟩ := hx
    go_wp2
    exact bodyPost_ret (v := .tuple #[.agg #[.int .i64 X1, .int .i64 X2, .int .i64 X3, .int .i64 X4, .string X5], .int .i64 0]) (by simp [results, Tryz.results67, go_sem, r0, r1, r2, r3, r4]) rfl ⟨rfl, below5 hl (Nat.le_refl _) _ _ _ _ _⟩
end Go.Proofs.YthjbmloemmggaaaGreatDoor.Ip
