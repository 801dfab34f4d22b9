/- AppKeeps in plain words. -/
import Derived.Test.YtadmpdeegnppjaaDoorAn
import Derived.Test.YtadmpdeegnppjaaDoorFlat
namespace Go.Proofs.YtadmpdeegnppjaaDoor
open Go.RowKit Go.Maps Go.Shelf Go.Lib
set_option maxRecDepth 100000
set_option linter.unusedVariables false
set_option linter.unusedSimpArgs false


abbrev encL (t : By) : Value := .string (B t)
theorem zeroL (w : World) : (zeroValue 9).run Tryd.prog w = .ok (encL []) w := by kernel_rfl
def sM (m : Mp) : St := ⟨m, [], false, false⟩
/-- A line, and COUNT behind it. -/
def twoL (line : By) : By := line ++ [10, 67, 79, 85, 78, 84, 10]
def twoA (want : By) (n : Nat) : By := want ++ [10, 67, 79, 85, 78, 84, 32] ++ Go.Lib.itoa (n : Int) ++ [10]
theorem gath_line0 (m : Mp) (l : By) (hl : l.length ≤ 256) : gath (sM m) l = ⟨m, l, false, false⟩ := by
  unfold gath sM
  rw [List.take_of_length_le (by simpa using hl), decide_eq_false (by simp only [List.length_nil]; omega)]
  rfl
theorem take_two {m m' : Mp} {line want : By} (hans : ansF m line = (want, m', false)) (hl : line.length ≤ 256) (h10 : ∀ b ∈ line, b ≠ 10) : takeF (sM m) (twoL line) = (twoA want m'.length, sM m') := by
  have e1 : twoL line = line ++ 10 :: (cCOUNT ++ 10 :: []) := by simp [twoL]
  have t1 := take_line (sM m) line (cCOUNT ++ 10 :: []) rfl (by simp [sM]) h10
  have e2 : endF (gath (sM m) line) = (want, sM m') := by
    rw [gath_line0 m line hl]
    unfold endF
    rw [if_neg Bool.false_ne_true]
    simp only
    rw [hans]
    rfl
  have t2 := take_line (sM m') cCOUNT [] rfl (by simp [sM]) (by decide)
  have e3 : endF (gath (sM m') cCOUNT) = (bCOUNT ++ Go.Lib.itoa (m'.length : Int), sM m') := by
    rw [gath_line0 m' cCOUNT (by decide)]
    rfl
  rw [e1, t1, e2]
  simp only
  rw [t2, e3]
  simp [takeF, twoA]
/-- What the law does: the answer that it wants, the map behind it. -/
def wantK (m : Mp) (kd : Nat) (nm v : By) : By × Mp :=
  if kd = 0 then (bOK, mput m (nm, v))
  else if kd = 1 then ((match mget m nm with | none => bNONE | some o => bVALUE ++ o), m)
  else if kd = 2 then ((match mget m nm with | none => bNONE | some _ => bOK), mdel m nm)
  else if (valF m nm ++ v).length ≤ 200 then (bCOUNT ++ Go.Lib.itoa ((valF m nm ++ v).length : Int), mput m (nm, valF m nm ++ v)) else (bFULL, m)
def lineK (kd : Nat) (nm v : By) : By :=
  if kd = 0 then cPUT ++ 32 :: (nm ++ 32 :: v) else if kd = 1 then cGET ++ 32 :: nm else if kd = 2 then cDEL ++ 32 :: nm else cAPP ++ 32 :: (nm ++ 32 :: v)
theorem ans_K {m : Mp} (hm : m.length < 64) (kd : Nat) (nm v : By) (hn : okName nm = true) : ansF m (lineK kd nm v) = ((wantK m kd nm v).1, (wantK m kd nm v).2, false) := by
  have hkp : ∀ (t told : By), keepF m nm t told = (told, mput m (nm, t)) := fun t told => if_neg (fun q => by omega)
  unfold lineK wantK
  by_cases h0 : kd = 0
  · rw [if_pos h0, if_pos h0]
    unfold ansF
    rw [read_three (Or.inl rfl) hn]
    simp only
    rw [if_pos trivial, hkp]
  rw [if_neg h0, if_neg h0]
  by_cases h1 : kd = 1
  · rw [if_pos h1, if_pos h1]
    unfold ansF
    rw [read_two (Or.inl rfl) hn]
    rfl
  rw [if_neg h1, if_neg h1]
  by_cases h2 : kd = 2
  · rw [if_pos h2, if_pos h2]
    unfold ansF
    rw [read_two (Or.inr rfl) hn]
    show ((dropF m nm).1, (dropF m nm).2, false) = _
    unfold dropF
    cases hg : mget m nm with
    | none => simp only; rw [mdel_of_none hg]
    | some o => rfl
  rw [if_neg h2, if_neg h2]
  have hans : ansF m (cAPP ++ 32 :: (nm ++ 32 :: v)) = ((growF m nm v).1, (growF m nm v).2, false) := by
    unfold ansF
    rw [read_three (Or.inr (Or.inl rfl)) hn]
    rfl
  rw [hans]
  unfold growF
  by_cases hl : (valF m nm ++ v).length ≤ 200
  · rw [if_pos hl, if_neg (by omega), hkp]
  · rw [if_neg hl, if_pos (by omega)]
/-- What the law's map keeps. -/
structure KM (m : Mp) (k : Nat) : Prop where
  rise : Rise m
  size : m.length ≤ k
  keys : ∀ e ∈ m, e.1.length ≤ 32 ∧ e.2.length ≤ 300
theorem KM.zero : KM [] 0 := ⟨List.Pairwise.nil, Nat.le_refl _, (by intro e he; cases he)⟩
theorem KM.put {m : Mp} {k : Nat} (h : KM m k) {nm v : By} (h1 : nm.length ≤ 32) (h2 : v.length ≤ 300) : KM (mput m (nm, v)) (k + 1) := by
  refine ⟨mput_rise h.rise _, ?_, fun e he => ?_⟩
  · rw [mput_len h.rise]
    have := h.size
    split <;> omega
  · rcases mem_mput he with rfl | he
    · exact ⟨h1, h2⟩
    · exact h.keys e he
theorem KM.mono {m : Mp} {k k' : Nat} (h : KM m k) (hk : k ≤ k') : KM m k' := ⟨h.rise, Nat.le_trans h.size hk, h.keys⟩
theorem KM.del {m : Mp} {k : Nat} (h : KM m k) (nm : By) : KM (mdel m nm) k := ⟨mdel_rise h.rise nm, Nat.le_trans (List.length_filter_le _ _) h.size, fun e he => h.keys e (List.mem_filter.1 he).1⟩
theorem KM.step {m : Mp} {k : Nat} (h : KM m k) (kd : Nat) {nm v : By} (h1 : nm.length ≤ 32) (h2 : v.length ≤ 100) : KM (wantK m kd nm v).2 (k + 1) := by
  unfold wantK
  split
  · exact h.put h1 (by omega)
  · split
    · exact h.mono (by omega)
    · split
      · exact (h.del nm).mono (by omega)
      · split
        · exact h.put h1 (by omega)
        · exact h.mono (by omega)
theorem KM.ok {m : Mp} {k : Nat} (h : KM m k) (hk : k ≤ 64) : Ok (sM m) := ⟨h.rise, Nat.le_trans h.size hk, h.keys, by simp [sM]⟩
theorem KM.val {m : Mp} {k : Nat} (h : KM m k) (nm : By) : (valF m nm).length ≤ 300 := by
  unfold valF
  cases hg : mget m nm with
  | none => simp
  | some v => exact (h.keys _ (mget_mem hg)).2
def nmK (x : Int) : By := 107 :: Go.Lib.itoa x
theorem nm_ok {x : Int} (h0 : 0 ≤ x) (h1 : x < 9) : okName (nmK x) = true ∧ (nmK x).length ≤ 11 ∧ ∀ b ∈ nmK x, b ≠ 10 := by
  obtain ⟨n, rfl⟩ : ∃ n : Nat, x = (n : Int) := ⟨x.toNat, by omega⟩
  have hn : n < 9 := by omega
  rw [nmK, itoa_one n (by omega)]
  have : ∀ n : Fin 9, okName (107 :: [UInt8.ofNat (48 + n.val)]) = true ∧ ∀ b ∈ (107 :: [UInt8.ofNat (48 + n.val)] : By), b ≠ 10 := by decide
  exact ⟨(this ⟨n, hn⟩).1, by simp, (this ⟨n, hn⟩).2⟩
theorem line_ok (kd : Nat) {nm v : By} (hn : nm.length ≤ 11) (hv : v.length ≤ 100) (hn10 : ∀ b ∈ nm, b ≠ 10) (hv10 : ∀ b ∈ v, b ≠ 10) : (lineK kd nm v).length ≤ 200 ∧ ∀ b ∈ lineK kd nm v, b ≠ 10 := by
  have h3 : ∀ a : By, a.length ≤ 10 → (∀ b ∈ a, b ≠ 10) → (a ++ 32 :: (nm ++ 32 :: v)).length ≤ 200 ∧ ∀ b ∈ (a ++ 32 :: (nm ++ 32 :: v)), b ≠ 10 := fun a ha h => by
    refine ⟨by simp only [List.length_append, List.length_cons]; omega, fun b hb => ?_⟩
    rcases List.mem_append.1 hb with hb | hb
    · exact h b hb
    · rcases List.mem_cons.1 hb with rfl | hb
      · decide
      · rcases List.mem_append.1 hb with hb | hb
        · exact hn10 b hb
        · rcases List.mem_cons.1 hb with rfl | hb
          · decide
          · exact hv10 b hb
  have h2 : ∀ a : By, a.length ≤ 10 → (∀ b ∈ a, b ≠ 10) → (a ++ 32 :: nm).length ≤ 200 ∧ ∀ b ∈ (a ++ 32 :: nm), b ≠ 10 := fun a ha h => by
    refine ⟨by simp only [List.length_append, List.length_cons]; omega, fun b hb => ?_⟩
    rcases List.mem_append.1 hb with hb | hb
    · exact h b hb
    · rcases List.mem_cons.1 hb with rfl | hb
      · decide
      · exact hn10 b hb
  unfold lineK
  split
  · exact h3 cPUT (by decide) (by decide)
  · split
    · exact h2 cGET (by decide) (by decide)
    · split
      · exact h2 cDEL (by decide) (by decide)
      · exact h3 cAPP (by decide) (by decide)
/-- An act that came in: three cells. -/
def ArgA (w : World) (a : Option Addr) (n : Nat) : Prop := n = 0 ∨ ∃ ab off, a = some ⟨ab, off, none⟩ ∧ ∀ i, i < n → ∃ (kd nn : Int) (s : By), w.cell? ⟨ab, off + i * 3, none⟩ = some (.int .i64 kd) ∧ w.cell? ⟨ab, off + i * 3 + 1, none⟩ = some (.int .i64 nn) ∧ w.cell? ⟨ab, off + i * 3 + 2, none⟩ = some (.string (B s)) ∧ s.length ≤ 140737488351232
theorem argA_of {w : World} {a : Option Addr} {n : Nat} (h : Flat.Rows w a n 3 [.i, .i, .s]) : ArgA w a n := by
  rcases h with h | ⟨b, off, ha, h⟩
  · exact Or.inl h
  · refine Or.inr ⟨b, off, ha, fun i hi => ?_⟩
    obtain ⟨cs, ho, hc⟩ := h i hi
    have hl : cs.length = 3 := ho.1
    match cs, hl with
    | [v0, v1, v2], _ =>
    obtain ⟨kd, rfl, -⟩ := ho.2 0 .i _ rfl rfl
    obtain ⟨nn, rfl, -⟩ := ho.2 1 .i _ rfl rfl
    obtain ⟨s, rfl, hs⟩ := ho.2 2 .s _ rfl rfl
    have y0 := hc 0 _ rfl
    rw [Nat.add_zero] at y0
    exact ⟨kd, nn, s.data.toList, y0, hc 1 _ rfl, by rw [B_of]; exact hc 2 _ rfl, by simpa using hs⟩
end Go.Proofs.YtadmpdeegnppjaaDoor
