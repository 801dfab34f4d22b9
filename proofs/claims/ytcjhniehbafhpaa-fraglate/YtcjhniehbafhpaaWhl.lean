/- Plain facts of the pieces of a packet: their data, one behind the other, are the packet's; each may be, is as short as it must be, and begins where the one ahead of it ends. -/
import Derived.Test.YtcjhniehbafhpaaPcs
import Derived.Test.YtcjhniehbafhpaaIpm
namespace Go.Proofs.Ytcjhniehbafhpaa
open Go.RowKit
set_option maxRecDepth 100000

def catD (ps : List Pk) : ByteArray := ps.foldl (fun a q => a ++ q.da) ⟨#[]⟩
theorem catD_snoc (ps : List Pk) (q : Pk) : catD (ps ++ [q]) = catD ps ++ q.da := by simp [catD]
theorem fold_size (l : List Pk) (a : ByteArray) : a.size ≤ (l.foldl (fun a q => a ++ q.da) a).size := by
  induction l generalizing a with
  | nil => exact Nat.le_refl _
  | cons q l ih => exact Nat.le_trans (by rw [ByteArray.size_append]; omega) (ih (a ++ q.da))
theorem catD_le (ps : List Pk) (i : Nat) : (catD (ps.take i)).size ≤ (catD ps).size := by
  have h : catD ps = (ps.drop i).foldl (fun a q => a ++ q.da) (catD (ps.take i)) := by
    unfold catD
    rw [← List.foldl_append, List.take_append_drop]
  rw [h]
  exact fold_size _ _
theorem catD_step (ps : List Pk) (i : Nat) (q : Pk) (hq : ps[i]? = some q) : catD (ps.take (i + 1)) = catD (ps.take i) ++ q.da := by
  obtain ⟨hi, rfl⟩ := List.getElem?_eq_some_iff.1 hq
  rw [List.take_succ_eq_append_getElem hi, catD_snoc]
theorem ext_all (s : ByteArray) : s.extract 0 s.size = s := by
  apply ba_toList
  rw [ext_toList, List.drop_zero, Nat.sub_zero, ← len_toList, List.take_length]
theorem ext_none (s : ByteArray) (a : Nat) : s.extract a a = ⟨#[]⟩ := by
  apply ba_toList
  rw [ext_toList, Nat.sub_self, List.take_zero]
theorem catD_first (p : Pk) (R k : Nat) : catD (firstP p R k) = p.da.extract 0 (k * R) := by
  induction k with
  | zero => rw [Nat.zero_mul, ext_none]; rfl
  | succ k ih =>
    rw [firstP_succ, catD_snoc, ih]
    show p.da.extract 0 (k * R) ++ p.da.extract (k * R) ((k + 1) * R) = _
    exact ext_join _ _ _ _ (Nat.zero_le _) (Nat.mul_le_mul_right R (Nat.le_succ k))
theorem catD_all (p : Pk) (R : Nat) (h : 0 < p.da.size) : catD (allP p R) = p.da := by
  unfold allP
  rw [catD_snoc, catD_first]
  show p.da.extract 0 _ ++ p.da.extract (fullN p.da.size R * R) p.da.size = _
  rw [ext_join _ _ _ _ (Nat.zero_le _) (Nat.le_of_lt (full_mul _ R h)), ext_all]

theorem all_at (p : Pk) (R i : Nat) (q : Pk) (h : (allP p R)[i]? = some q) : i < fullN p.da.size R ∧ q = pieceN p R i ∨ i = fullN p.da.size R ∧ q = pieceZ p R i := by
  unfold allP at h
  by_cases hi : i < fullN p.da.size R
  · rw [List.getElem?_append_left (by rw [firstP_len]; exact hi)] at h
    simp only [firstP, List.getElem?_map, List.getElem?_range hi, Option.map_some, Option.some.injEq] at h
    exact .inl ⟨hi, h.symm⟩
  · rw [List.getElem?_append_right (by rw [firstP_len]; omega), firstP_len] at h
    have : i - fullN p.da.size R = 0 := by
      apply Classical.byContradiction; intro hn
      rw [List.getElem?_eq_none (by simp; omega)] at h
      cases h
    have hi2 : i = fullN p.da.size R := by omega
    rw [this] at h
    simp only [List.getElem?_cons_zero, Option.some.injEq] at h
    exact .inr ⟨hi2, by rw [hi2]; exact h.symm⟩

/-- What each piece is. -/
structure Good (f t tl pr id fr : Int) (mo dn : Bool) (op da : ByteArray) (most : Int) (ps : List Pk) (i : Nat) (q : Pk) : Prop where
  ef : q.f = f
  et : q.t = t
  etl : q.tl = tl
  epr : q.pr = pr
  eid : q.id = id
  edn : q.dn = dn
  eop : q.op = op
  may : mayP f t tl pr id q.fr q.mo op.size q.da.size = true
  size : 20 + (op.size : Int) + (q.da.size : Int) ≤ most
  more : (i + 1 < ps.length → q.mo = true) ∧ (i + 1 = ps.length → q.mo = mo)
  first : i = 0 → q.fr = fr
  next : ∀ q', ps[i + 1]? = some q' → q'.fr = q.fr + (q.da.size : Int) / 8

theorem good_cut (f t tl pr id fr : Int) (mo dn : Bool) (op da : ByteArray) (most : Int) (R : Nat) (hm : mayP f t tl pr id fr mo op.size da.size = true) (h1 : 28 + (op.size : Int) ≤ most) (h2 : most ≤ 65535) (h3 : most < 20 + (op.size : Int) + (da.size : Int)) (hR : (R : Int) = (most - (20 + (op.size : Int))) / 8 * 8)
    (i : Nat) (q : Pk) (hq : (allP ⟨f, t, tl, pr, id, fr, mo, dn, op, da⟩ R)[i]? = some q) : Good f t tl pr id fr mo dn op da most (allP ⟨f, t, tl, pr, id, fr, mo, dn, op, da⟩ R) i q := by
  obtain ⟨⟨f0, f1⟩, ⟨t0, t1⟩, ⟨l0, l1⟩, ⟨p0, p1⟩, ⟨i0, i1⟩, ⟨r0, r1⟩, o4, o40, hmo, hz, hz2⟩ := mayP_q hm
  have hR8 : 8 ≤ R := by omega
  have hRm : R % 8 = 0 := by omega
  have hd0 : 0 < da.size := by omega
  have hlen : (allP ⟨f, t, tl, pr, id, fr, mo, dn, op, da⟩ R).length = fullN da.size R + 1 := allP_len _ _
  have hN : ∀ k, k < fullN da.size R ↔ (k + 1) * R < da.size := fun k => full_lt da.size R k (by omega) hd0
  have hNm := full_mul da.size R hd0
  have hk8 : ∀ k, (k * R) % 8 = 0 := fun k => by rw [Nat.mul_mod, hRm]; simp
  have hs : ∀ k, (k + 1) * R = k * R + R := fun k => by rw [Nat.add_mul, Nat.one_mul]
  have key : q.fr = fr + ((i * R : Nat) : Int) / 8 ∧ q.f = f ∧ q.t = t ∧ q.tl = tl ∧ q.pr = pr ∧ q.id = id ∧ q.dn = dn ∧ q.op = op ∧ (i < fullN da.size R ∧ q.mo = true ∧ q.da.size = R ∧ i * R + R < da.size ∨ i = fullN da.size R ∧ q.mo = mo ∧ q.da.size = da.size - i * R ∧ i * R < da.size ∧ da.size ≤ i * R + R) := by
    rcases all_at _ _ _ _ hq with ⟨hi, rfl⟩ | ⟨hi, rfl⟩
    · refine ⟨rfl, rfl, rfl, rfl, rfl, rfl, rfl, rfl, .inl ⟨hi, rfl, ?_, ?_⟩⟩
      · show (da.extract (i * R) ((i + 1) * R)).size = R
        have := (hN i).1 hi
        rw [ByteArray.size_extract, hs]; rw [hs] at this; omega
      · have := (hN i).1 hi; rw [hs] at this; exact this
    · have hi' : i = fullN da.size R := hi
      refine ⟨rfl, rfl, rfl, rfl, rfl, rfl, rfl, rfl, .inr ⟨hi', rfl, ?_, ?_, ?_⟩⟩
      · show (da.extract (i * R) da.size).size = _
        rw [ByteArray.size_extract]; omega
      · rw [hi']; exact hNm
      · have : ¬ (i + 1) * R < da.size := fun h => by have := (hN i).2 h; omega
        rw [hs] at this; omega
  obtain ⟨e1, e2, e3, e4, e5, e6, e7, e8, e9⟩ := key
  have h8 := hk8 i
  refine ⟨e2, e3, e4, e5, e6, e7, e8, ?_, ?_, ?_, ?_, ?_⟩
  · apply mayP_t
    rw [e1]
    generalize i * R = A at *
    refine ⟨⟨f0, f1⟩, ⟨t0, t1⟩, ⟨l0, l1⟩, ⟨p0, p1⟩, ⟨i0, i1⟩, ?_, o4, o40, ?_, ?_, ?_⟩
    · rcases e9 with ⟨-, -, a, b⟩ | ⟨-, -, a, b, c⟩ <;> omega
    · rcases e9 with ⟨-, -, a, b⟩ | ⟨-, m, a, b, c⟩
      · intro _; omega
      · intro hq
        rw [m] at hq
        have := hmo hq
        omega
    · rcases e9 with ⟨-, -, a, b⟩ | ⟨-, -, a, b, c⟩ <;> omega
    · rcases e9 with ⟨-, -, a, b⟩ | ⟨-, -, a, b, c⟩ <;> omega
  · rcases e9 with ⟨-, -, a, b⟩ | ⟨-, -, a, b, c⟩ <;> omega
  · rw [hlen]
    rcases e9 with ⟨hi, m, -, -⟩ | ⟨hi, m, -, -, -⟩
    · exact ⟨fun _ => m, fun h => by omega⟩
    · exact ⟨fun h => by omega, fun _ => m⟩
  · intro h0; rw [e1, h0]; simp
  · intro q' hq'
    have hil : i + 1 < (allP ⟨f, t, tl, pr, id, fr, mo, dn, op, da⟩ R).length := (List.getElem?_eq_some_iff.1 hq').1
    rw [hlen] at hil
    have e1' : q'.fr = fr + (((i + 1) * R : Nat) : Int) / 8 := by
      rcases all_at _ _ _ _ hq' with ⟨-, rfl⟩ | ⟨-, rfl⟩ <;> rfl
    rw [e1', e1, hs]
    rcases e9 with ⟨hi, m, a, -⟩ | ⟨hi, m, -, -, -⟩
    · rw [a]; generalize i * R = A at *; omega
    · omega
theorem good_one (f t tl pr id fr : Int) (mo dn : Bool) (op da : ByteArray) (most : Int) (hm : mayP f t tl pr id fr mo op.size da.size = true) (h3 : 20 + (op.size : Int) + (da.size : Int) ≤ most)
    (i : Nat) (q : Pk) (hq : ([⟨f, t, tl, pr, id, fr, mo, dn, op, da⟩] : List Pk)[i]? = some q) : Good f t tl pr id fr mo dn op da most [⟨f, t, tl, pr, id, fr, mo, dn, op, da⟩] i q := by
  have hi : i = 0 := by have := (List.getElem?_eq_some_iff.1 hq).1; simp at this; exact this
  subst hi
  obtain rfl := Option.some.inj hq
  exact ⟨rfl, rfl, rfl, rfl, rfl, rfl, rfl, hm, h3, ⟨fun h => by simp at h, fun _ => rfl⟩, fun _ => rfl, fun q' h => by simp at h⟩

/-- The pieces of a packet, all that the law asks; or an error, and none. -/
theorem cuts_good (f t tl pr id fr : Int) (mo dn : Bool) (op da : ByteArray) (most : Int) : ∃ c ps, Cuts f t tl pr id fr mo dn op da most c ps ∧ ps.length ≤ 65536 ∧ (¬ c = 0 ∧ ps = [] ∧ (mayP f t tl pr id fr mo op.size da.size = true → 28 + (op.size : Int) ≤ most → most ≤ 65535 → c = 2 ∧ dn = true) ∨ c = 0 ∧ catD ps = da ∧ ∀ i q, ps[i]? = some q → Good f t tl pr id fr mo dn op da most ps i q) := by
  unfold Cuts
  cases hm : mayP f t tl pr id fr mo op.size da.size
  · exact ⟨50, [], .inl ⟨rfl, rfl, rfl⟩, by simp, .inl ⟨by decide, rfl, fun h => by cases h⟩⟩
  · have hq := mayP_q hm
    obtain ⟨-, -, -, -, -, -, -, -, -, hz, -⟩ := hq
    by_cases h1 : most < 28 + (op.size : Int)
    · exact ⟨1, [], .inr ⟨rfl, .inl ⟨rfl, rfl, h1⟩⟩, by simp, .inl ⟨by decide, rfl, fun _ h => by omega⟩⟩
    · by_cases h2 : 65535 < most
      · exact ⟨1, [], .inr ⟨rfl, .inr (.inl ⟨rfl, rfl, by omega, h2⟩)⟩, by simp, .inl ⟨by decide, rfl, fun _ _ h => by omega⟩⟩
      · by_cases h3 : 20 + (op.size : Int) + (da.size : Int) ≤ most
        · exact ⟨0, [⟨f, t, tl, pr, id, fr, mo, dn, op, da⟩], .inr ⟨rfl, .inr (.inr ⟨⟨by omega, by omega⟩, .inl ⟨rfl, rfl, h3⟩⟩)⟩, by simp, .inr ⟨rfl, by apply ba_toList; simp [catD], fun i q hq => good_one f t tl pr id fr mo dn op da most hm h3 i q hq⟩⟩
        · cases hd : dn
          · have hR : ((((most - (20 + (op.size : Int))) / 8 * 8).toNat : Nat) : Int) = (most - (20 + (op.size : Int))) / 8 * 8 := by omega
            refine ⟨0, _, .inr ⟨rfl, .inr (.inr ⟨⟨by omega, by omega⟩, .inr ⟨by omega, .inr ⟨rfl, rfl, rfl⟩⟩⟩)⟩, ?_, .inr ⟨rfl, catD_all _ _ (by show 0 < da.size; omega), fun i q hq => good_cut f t tl pr id fr mo false op da most _ hm (by omega) (by omega) (by omega) hR i q hq⟩⟩
            rw [allP_len]
            show fullN da.size _ + 1 ≤ _
            have := Nat.div_le_self (da.size - 1) ((most - (20 + (op.size : Int))) / 8 * 8).toNat
            unfold fullN
            omega
          · exact ⟨2, [], .inr ⟨rfl, .inr (.inr ⟨⟨by omega, by omega⟩, .inr ⟨by omega, .inl ⟨rfl, rfl, rfl⟩⟩⟩)⟩, by simp, .inl ⟨by decide, rfl, fun _ _ _ => ⟨rfl, rfl⟩⟩⟩
end Go.Proofs.Ytcjhniehbafhpaa
