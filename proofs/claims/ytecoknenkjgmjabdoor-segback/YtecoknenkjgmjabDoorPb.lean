/- There and back in plain data: the bytes of options that may be are read as these options, whatever stands behind a byte 0, and with bytes 1 ahead. -/
import Derived.Test.YtecoknenkjgmjabDoorOn
namespace Go.Proofs.YtecoknenkjgmjabDoor
open Go.RowKit
set_option maxRecDepth 100000

def runL (l : List UInt8) (o : Op) : Option Op := runO (l.length + 1) l o
theorem runL_nil (o : Op) : runL [] o = some o := rfl
theorem runL_zero (l : List UInt8) (o : Op) : runL (0 :: l) o = some o := by simp [runL, runO]
theorem runL_one (l : List UInt8) (o : Op) : runL (1 :: l) o = runL l o := by
  unfold runL
  rw [List.length_cons]
  conv => lhs; simp only [runO]
  rw [if_neg (by decide), if_pos trivial]
theorem runL_part (k n : UInt8) (b rest : List UInt8) (o o' : Op) (hk0 : ¬ k = 0) (hk1 : ¬ k = 1) (hn : n.toNat = b.length + 2) (hs : stepO o (k.toNat : Int) b = some o') : runL (k :: n :: (b ++ rest)) o = runL rest o' := by
  unfold runL
  rw [List.length_cons]
  conv => lhs; simp only [runO]
  rw [if_neg hk0, if_neg hk1, if_neg (by rw [List.length_append]; omega), hn, Nat.add_sub_cancel, List.take_left, List.drop_left, hs]
  exact runO_fuel _ _ _ _ (by simp only [List.length_cons, List.length_append]; omega) (by omega)
theorem runL_run (l : List UInt8) (o : Op) (f : Nat) (h : l.length < f) : runO f l o = runL l o := runO_fuel f l o (l.length + 1) h (by omega)
theorem pairs_rgL (rs : List (Int × Int)) (h : ∀ r ∈ rs, rgB r = true) : pairsL (rgL rs) = rs := by
  have key : ∀ (rs : List (Int × Int)), (∀ r ∈ rs, rgB r = true) → ∀ i r, rs[i]? = some r → numL (((rgL rs).drop (i * 8)).take 4) = r.1 ∧ numL (((rgL rs).drop (i * 8 + 4)).take 4) = r.2 := by
    intro rs
    induction rs with
    | nil => intro _ i r hr; simp at hr
    | cons q rs ih =>
      intro h i r hr
      have e : rgL (q :: rs) = txtL q.1 4 ++ (txtL q.2 4 ++ rgL rs) := by simp [rgL]
      have l1 : (txtL q.1 4).length = 4 := txtL_length _ _
      have l2 : (txtL q.2 4).length = 4 := txtL_length _ _
      obtain ⟨⟨a0, a1⟩, ⟨b0, b1⟩, -⟩ := rgB_t (h q (by simp))
      cases i with
      | zero =>
        simp only [List.getElem?_cons_zero, Option.some.injEq] at hr
        subst hr
        rw [e, Nat.zero_mul, List.drop_zero, Nat.zero_add]
        constructor
        · rw [List.take_left' l1]; exact num_txt _ 4 a0 (by show q.1 < 4294967296; omega)
        · rw [List.drop_left' l1, List.take_left' l2]; exact num_txt _ 4 b0 (by show q.2 < 4294967296; omega)
      | succ i =>
        simp only [List.getElem?_cons_succ] at hr
        obtain ⟨h1, h2⟩ := ih (fun r hr => h r (by simp [hr])) i r hr
        have d : ∀ j, (rgL (q :: rs)).drop (8 + j) = (rgL rs).drop j := by
          intro j
          rw [← List.drop_drop, e, ← List.append_assoc, List.drop_left' (by rw [List.length_append, l1, l2])]
        rw [show (i + 1) * 8 = 8 + i * 8 by omega, show 8 + i * 8 + 4 = 8 + (i * 8 + 4) by omega, d, d]
        exact ⟨h1, h2⟩
  unfold pairsL
  rw [rgL_len, Nat.mul_div_cancel _ (by decide)]
  apply List.ext_getElem?
  intro i
  by_cases hi : i < rs.length
  · rw [List.getElem?_map, List.getElem?_range hi, List.getElem?_eq_getElem hi]
    obtain ⟨h1, h2⟩ := key rs h i _ (List.getElem?_eq_getElem hi)
    simp only [Option.map_some, h1, h2]
  · rw [List.getElem?_eq_none (by simp; omega), List.getElem?_eq_none (by omega)]
theorem one_byte (n : Nat) (h : n < 256) : txtL (n : Int) 1 = [UInt8.ofNat n] ∧ (UInt8.ofNat n).toNat = n := by
  refine ⟨?_, by simp; omega⟩
  simp [txtL, byteAt]
  congr 1
  omega
set_option maxHeartbeats 1000000 in
theorem runL_bare (m c t ec : Int) (sd ok sp : Bool) (rs : List (Int × Int)) (h : mayO m c t ec sd ok sp rs = true) (rest : List UInt8) : runL (bareL m c t ec sd ok sp rs 5 ++ rest) Op.zero = runL rest ⟨m, c, t, ec, sd, ok, sp, rs⟩ := by
  have hn4 := mayO_short h
  obtain ⟨⟨h0, h1⟩, ⟨g0, g1⟩, hc, ⟨t0, t1⟩, ⟨e0, e1⟩, hp, -, hrr⟩ := mayO_t h
  have eb : bareL m c t ec sd ok sp rs 5 = partL m c t ec sd ok sp rs 0 ++ (partL m c t ec sd ok sp rs 1 ++ (partL m c t ec sd ok sp rs 2 ++ (partL m c t ec sd ok sp rs 3 ++ partL m c t ec sd ok sp rs 4))) := by
    unfold bareL
    rw [show List.range 5 = [0, 1, 2, 3, 4] from rfl]
    simp
  rw [eb]
  simp only [List.append_assoc]
  -- MSS
  have s1 : ∀ r, runL (partL m c t ec sd ok sp rs 0 ++ r) Op.zero = runL r ⟨m, 0, 0, 0, false, false, false, []⟩ := by
    intro r
    by_cases hm : m = 0
    · subst hm; simp only [partL]; rw [if_neg (by simp)]; rfl
    · simp only [partL]
      rw [if_pos hm]
      have nm : numL (txtL m 2) = m := num_txt m 2 h0 (by show m < 65536; omega)
      refine runL_part 2 4 (txtL m 2) r _ _ (by decide) (by decide) (by rw [txtL_length]; rfl) ?_
      show stepO Op.zero 2 (txtL m 2) = _
      have hf : followsB Op.zero 2 (txtL m 2).length = true := by rw [txtL_length]; rfl
      have hs : saysB 2 (txtL m 2) = true := by simp [saysB, nm, hm]
      unfold stepO
      rw [hf, hs, Bool.and_self, if_pos rfl]
      simp [takeO, nm, Op.zero]
  have s2 : ∀ r, runL (partL m c t ec sd ok sp rs 1 ++ r) ⟨m, 0, 0, 0, false, false, false, []⟩ = runL r ⟨m, c, 0, 0, sd, false, false, []⟩ := by
    intro r
    cases sd with
    | false =>
      have hc0 : c = 0 := by simpa using hc
      subst hc0; simp only [partL]; rw [if_neg (by simp)]; rfl
    | true =>
      simp only [partL]
      rw [if_pos trivial]
      have nm : numL (txtL c 1) = c := num_txt c 1 g0 (by show c < 256; omega)
      refine runL_part 3 3 (txtL c 1) r _ _ (by decide) (by decide) (by rw [txtL_length]; rfl) ?_
      show stepO _ 3 (txtL c 1) = _
      have hf : followsB ⟨m, 0, 0, 0, false, false, false, []⟩ 3 (txtL c 1).length = true := by rw [txtL_length]; rfl
      have hs : saysB 3 (txtL c 1) = true := by simp [saysB]
      unfold stepO
      rw [hf, hs, Bool.and_self, if_pos rfl]
      simp [takeO, nm]
  have s3 : ∀ r, runL (partL m c t ec sd ok sp rs 2 ++ r) ⟨m, c, 0, 0, sd, false, false, []⟩ = runL r ⟨m, c, 0, 0, sd, ok, false, []⟩ := by
    intro r
    cases ok with
    | false => simp only [partL]; rw [if_neg (by simp)]; rfl
    | true =>
      simp only [partL]
      rw [if_pos trivial]
      refine runL_part 4 2 [] r _ _ (by decide) (by decide) rfl ?_
      show stepO _ 4 [] = _
      have hf : followsB ⟨m, c, 0, 0, sd, false, false, []⟩ 4 ([] : List UInt8).length = true := rfl
      have hs : saysB 4 [] = true := by simp [saysB]
      unfold stepO
      rw [hf, hs, Bool.and_self, if_pos rfl]
      simp [takeO]
  have s4 : ∀ r, runL (partL m c t ec sd ok sp rs 3 ++ r) ⟨m, c, 0, 0, sd, ok, false, []⟩ = runL r ⟨m, c, t, ec, sd, ok, sp, []⟩ := by
    intro r
    cases sp with
    | false =>
      obtain ⟨rfl, rfl⟩ : t = 0 ∧ ec = 0 := by simpa using hp
      simp only [partL]; rw [if_neg (by simp)]; rfl
    | true =>
      simp only [partL]
      rw [if_pos trivial]
      have n1 : numL (txtL t 4) = t := num_txt t 4 t0 (by show t < 4294967296; omega)
      have n2 : numL (txtL ec 4) = ec := num_txt ec 4 e0 (by show ec < 4294967296; omega)
      have l4 : (txtL t 4).length = 4 := txtL_length _ _
      have l8 : (txtL t 4 ++ txtL ec 4).length = 8 := by rw [List.length_append, txtL_length, txtL_length]
      refine runL_part 8 10 (txtL t 4 ++ txtL ec 4) r _ _ (by decide) (by decide) (by rw [l8]; rfl) ?_
      show stepO _ 8 (txtL t 4 ++ txtL ec 4) = _
      have hf : followsB ⟨m, c, 0, 0, sd, ok, false, []⟩ 8 (txtL t 4 ++ txtL ec 4).length = true := by rw [l8]; rfl
      have hs : saysB 8 (txtL t 4 ++ txtL ec 4) = true := by simp [saysB]
      unfold stepO
      rw [hf, hs, Bool.and_self, if_pos rfl]
      simp [takeO, List.take_left' l4, List.drop_left' l4, n1, n2]
  have s5 : ∀ r, runL (partL m c t ec sd ok sp rs 4 ++ r) ⟨m, c, t, ec, sd, ok, sp, []⟩ = runL r ⟨m, c, t, ec, sd, ok, sp, rs⟩ := by
    intro r
    by_cases hr : 0 < rs.length
    · simp only [partL]
      rw [if_pos hr]
      have hb := one_byte (2 + rs.length * 8) (by omega)
      rw [show (2 + (rs.length : Int) * 8) = ((2 + rs.length * 8 : Nat) : Int) by omega, hb.1]
      show runL (5 :: UInt8.ofNat (2 + rs.length * 8) :: (rgL rs ++ r)) _ = _
      refine runL_part 5 _ (rgL rs) r _ _ (by decide) (by decide) (by rw [hb.2, rgL_len]; omega) ?_
      show stepO _ 5 (rgL rs) = _
      have hf : followsB ⟨m, c, t, ec, sd, ok, sp, []⟩ 5 (rgL rs).length = true := by
        rw [rgL_len]
        unfold followsB
        rw [if_pos rfl, decide_eq_true (show rs.length * 8 ≠ 0 ∧ rs.length * 8 % 8 = 0 by omega)]
        rfl
      have hs : saysB 5 (rgL rs) = true := by simp [saysB]
      unfold stepO
      rw [hf, hs, Bool.and_self, if_pos rfl]
      simp [takeO, pairs_rgL rs hrr]
    · have hr0 : rs = [] := List.eq_nil_of_length_eq_zero (by omega)
      subst hr0
      simp only [partL]; rw [if_neg (by simp)]; rfl
  rw [s1, s2, s3, s4, s5]
theorem runL_zeros (o : Op) (k : Nat) : runL (List.replicate k 0) o = some o := by
  cases k with
  | zero => rfl
  | succ k => rw [List.replicate_succ]; exact runL_zero _ _
theorem decO_run (l : List UInt8) (o : Op) (hl : l.length ≤ 40) (hr : runL l Op.zero = some o) (hm : o.may = true) : decO l = some o := by
  unfold decO
  rw [if_neg (by omega), runL_run l Op.zero 41 (by omega), hr]
  simp [hm]
theorem dec_enc (m c t ec : Int) (sd ok sp : Bool) (rs : List (Int × Int)) (h : mayO m c t ec sd ok sp rs = true) : decO (encO m c t ec sd ok sp rs).data.toList = some ⟨m, c, t, ec, sd, ok, sp, rs⟩ := by
  have hz := encO_size m c t ec sd ok sp rs
  have h40 := (mayO_t h).2.2.2.2.2.2.1
  refine decO_run _ _ (by rw [toList_size, hz]; exact h40) ?_ h
  show runL (encL m c t ec sd ok sp rs) _ = _
  unfold encL
  rw [runL_bare m c t ec sd ok sp rs h, runL_zeros]
theorem dec_one_enc (m c t ec : Int) (sd ok sp : Bool) (rs : List (Int × Int)) (h : mayO m c t ec sd ok sp rs = true) (hlt : (encO m c t ec sd ok sp rs).size < 40) : decO ((⟨#[1]⟩ : ByteArray) ++ encO m c t ec sd ok sp rs).data.toList = some ⟨m, c, t, ec, sd, ok, sp, rs⟩ := by
  rw [app_data]
  refine decO_run _ _ (by rw [List.length_append, toList_size, toList_size]; show 1 + _ ≤ 40; omega) ?_ h
  show runL (1 :: encL m c t ec sd ok sp rs) _ = _
  rw [runL_one]
  unfold encL
  rw [runL_bare m c t ec sd ok sp rs h, runL_zeros]
theorem decO_may {l : List UInt8} {o : Op} (h : decO l = some o) : o.may = true := by
  unfold decO at h
  split at h
  · cases h
  · split at h
    · cases h
    · split at h
      · rename_i hm; obtain rfl := Option.some.inj h; exact hm
      · cases h
end Go.Proofs.YtecoknenkjgmjabDoor
