/- the texts KFt, KFv, in part, merged by program -/
import Derived.Test.YthjbmloemmggaaaGreatDoorProg
import Derived.Test.YthjbmloemmggaaaGreatDoorRows
import Derived.WalkKit
import Derived.WalkSpells
import Derived.Maps.RangeWalk
import Derived.Maps.OwnSet
import Derived.Maps.Ext
import Derived.Maps.Keyed
import Derived.DeepKeys4
import Derived.WalkSmall
import Derived.Deep.Cut
import Derived.Deep.CutRange
import Derived.Deep.MidRow
import Derived.Deep.QuietTactic
import Derived.BigQuiet
import Derived.Deep.RegionWith
import Derived.OwnWalk
import Derived.Laws.CopyRow
import Derived.Shelf.Spec.SlicesInsert
import Derived.Lib.AppendZerosOnto
import Derived.Maps.AppendAt
import Derived.Lib.Overlaps
import Derived.Shelf.Strings.BuilderK
import Derived.Laws.OwnMore
import Derived.Laws.AppendOwn
import Derived.Laws.AppendOwnNone
import Derived.Carry
import Derived.Deep.RegionHeld3
import Derived.LoopN
import Derived.Test.YthjbmloemmggaaaGreatDoorMA01
import Derived.Test.YthjbmloemmggaaaGreatDoorMA04
import Derived.Test.YthjbmloemmggaaaGreatDoorMA05
import Derived.Test.YthjbmloemmggaaaGreatDoorMA06
import Derived.Test.YthjbmloemmggaaaGreatDoorMA07
import Derived.Test.YthjbmloemmggaaaGreatDoorMA08
import Derived.Test.YthjbmloemmggaaaGreatDoorMA09
import Derived.Test.YthjbmloemmggaaaGreatDoorMA10
import Derived.Test.YthjbmloemmggaaaGreatDoorMA11
import Derived.Test.YthjbmloemmggaaaGreatDoorMA12
import Derived.Test.YthjbmloemmggaaaGreatDoorMA13
namespace Go.Proofs.YthjbmloemmggaaaGreatDoor.Ip
open Go.RowKit Go.Maps
set_option maxRecDepth 100000
set_option linter.unusedVariables false
set_option linter.unusedSimpArgs false

structure Cx (p : Pk) (R N : Nat) : Prop where
  r8 : 8 ≤ R
  rm : R % 8 = 0
  lo : N * R < p.da.size
  hi : p.da.size ≤ (N + 1) * R
  n1 : 1 ≤ N
  fr0 : p.fr = 0
  mo : p.mo = false
  ll : p.da.size ≤ 400
  may : p.may = true
def pc (p : Pk) (R N k : Nat) : Pk := if k < N then pieceN p R k else pieceZ p R k
theorem full_is {p : Pk} {R N : Nat} (h : Cx p R N) : fullN p.da.size R = N := by
  have h1 := h.lo
  have h2 := h.hi
  have h8 := h.r8
  unfold fullN
  rw [Nat.add_mul, Nat.one_mul] at h2
  apply Nat.le_antisymm
  · have : (p.da.size - 1) / R < N + 1 := Nat.div_lt_of_lt_mul (by rw [Nat.mul_comm, Nat.add_mul, Nat.one_mul]; omega)
    omega
  · exact (Nat.le_div_iff_mul_le (by omega)).2 (by omega)
theorem all_is {p : Pk} {R N : Nat} (h : Cx p R N) : allP p R = (List.range (N + 1)).map (pc p R N) := by
  unfold allP firstP
  rw [full_is h, List.range_succ, List.map_append]
  congr 1
  · apply List.map_congr_left
    intro k hk
    unfold pc
    rw [if_pos (List.mem_range.1 hk)]
  · simp [pc]
section
variable {p : Pk} {R N : Nat} (h : Cx p R N)
include h
theorem pc_fr (k : Nat) : (pc p R N k).fr * 8 = ((k * R : Nat) : Int) := by
  have h1 : (pc p R N k).fr = ((k * R : Nat) : Int) / 8 := by
    unfold pc
    split <;> simp [pieceN, pieceZ, h.fr0]
  have h2 : (k * R) % 8 = 0 := by rw [Nat.mul_mod, h.rm]; simp
  rw [h1]
  omega
theorem pc_mono {k j : Nat} (hk : k < j) : (k + 1) * R ≤ j * R := by
  have _ := h.r8
  exact Nat.mul_le_mul_right R hk
theorem pc_size {k : Nat} (hk : k < N) : (pc p R N k).da.size = R := by
  have h1 := h.lo
  have h2 := pc_mono h hk
  unfold pc
  rw [if_pos hk]
  simp only [pieceN]
  rw [ByteArray.size_extract]
  rw [Nat.add_mul, Nat.one_mul] at h2 ⊢
  omega
theorem pc_sizeN : (pc p R N N).da.size = p.da.size - N * R := by
  have _ := h.r8
  unfold pc
  rw [if_neg (Nat.lt_irrefl _)]
  simp only [pieceZ]
  rw [ByteArray.size_extract]
  omega
theorem pc_en {k : Nat} (hk : k < N) : (pc p R N k).en = (((k + 1) * R : Nat) : Int) := by
  unfold Pk.en
  rw [pc_fr h, pc_size h hk, Nat.add_mul, Nat.one_mul]
  omega
theorem pc_enN : (pc p R N N).en = (p.da.size : Int) := by
  have := h.lo
  unfold Pk.en
  rw [pc_fr h, pc_sizeN h]
  omega
theorem pc_mo (k : Nat) : (pc p R N k).mo = decide (k < N) := by
  unfold pc
  split
  · rename_i hk; simp [pieceN, hk]
  · rename_i hk; simp [pieceZ, h.mo, hk]
theorem pc_enle {k : Nat} (hk : k ≤ N) : (pc p R N k).en ≤ (p.da.size : Int) := by
  rcases Nat.lt_or_ge k N with h1 | h1
  · rw [pc_en h h1]
    have := pc_mono h h1
    have := h.lo
    omega
  · obtain rfl : k = N := by omega
    rw [pc_enN h]
    exact Int.le_refl _
theorem pc_head (k : Nat) : (pc p R N k).f = p.f ∧ (pc p R N k).t = p.t ∧ (pc p R N k).tl = p.tl ∧ (pc p R N k).pr = p.pr ∧ (pc p R N k).id = p.id ∧ (pc p R N k).dn = p.dn ∧ (pc p R N k).op = p.op := by
  have _ := h.r8
  unfold pc
  split <;> simp [pieceN, pieceZ]
theorem pc_mk (k : Nat) : mk (pc p R N k) = mk p := by
  obtain ⟨h1, h2, -, h3, h4, -⟩ := pc_head h k
  unfold mk
  rw [h1, h2, h3, h4]
theorem pc_may {k : Nat} (hk : k ≤ N) : (pc p R N k).may = true := by
  obtain ⟨e1, e2, e3, e4, e5, e6, e7⟩ := pc_head h k
  obtain ⟨q1, q2, q3, q4, q5, q6, q7, q8, q9, q10, q11⟩ := mayP_q h.may
  have hf := pc_fr h k
  have hen := pc_enle h hk
  have hll := h.ll
  unfold Pk.en at hen
  have hkl : ((k * R : Nat) : Int) ≥ 0 := by omega
  unfold Pk.may
  rw [e1, e2, e3, e4, e5, e7]
  refine mayP_t ⟨q1, q2, q3, q4, q5, ⟨by omega, by omega⟩, q7, q8, fun hm => ?_, by omega, by omega⟩
  rw [pc_mo h] at hm
  rw [pc_size h (of_decide_eq_true hm)]
  exact ⟨by have := h.r8; omega, h.rm⟩
theorem pc_part {k : Nat} (hk : k ≤ N) : wholeB (pc p R N k).fr (pc p R N k).mo = false := by
  unfold wholeB
  rw [pc_mo h]
  rcases Nat.lt_or_ge k N with h1 | h1
  · rw [decide_eq_true h1]; simp
  · have hf := pc_fr h k
    have h2 : 1 * R ≤ k * R := Nat.mul_le_mul_right R (by have := h.n1; omega)
    have := h.r8
    rw [decide_eq_false (by omega)]
    rfl
theorem pc_ne {k j : Nat} (hk : k ≠ j) : (pc p R N k).fr ≠ (pc p R N j).fr := fun e => by
  have h1 := pc_fr h k
  have h2 := pc_fr h j
  rw [e] at h1
  have h3 : k * R = j * R := by omega
  exact hk (Nat.eq_of_mul_eq_mul_right (by have := h.r8; omega) h3)
theorem pc_lt {k j : Nat} : (pc p R N k).fr < (pc p R N j).fr ↔ k < j := by
  have h1 := pc_fr h k
  have h2 := pc_fr h j
  have h8 := h.r8
  constructor
  · intro hh
    apply Classical.byContradiction
    intro hn
    have : j * R ≤ k * R := Nat.mul_le_mul_right R (by omega)
    omega
  · intro hh
    have := pc_mono h hh
    rw [Nat.add_mul, Nat.one_mul] at this
    omega
theorem pc_has (k j : Nat) : hasB (pc p R N k) (pc p R N j) = decide (j = k) := by
  unfold hasB
  by_cases e : j = k
  · subst e; simp
  · rw [decide_eq_false (pc_ne h e), decide_eq_false e]; rfl
theorem pc_past {k j : Nat} (hk : k ≤ N) (hj : j ≤ N) : pastB (pc p R N k) (pc p R N j) = false := by
  unfold pastB
  rw [pc_mo h]
  rcases Nat.lt_or_ge j N with h1 | h1
  · rw [decide_eq_true h1]; rfl
  · obtain rfl : j = N := by omega
    have := pc_enle h hk
    have h2 : decide ((p.da.size : Int) < (pc p R j k).en) = false := decide_eq_false (by omega)
    rw [pc_enN h, h2]
    simp
theorem pc_clash {k j : Nat} (hk : k ≤ N) (hj : j ≤ N) (hne : k ≠ j) : clashB (pc p R N k) (pc p R N j) = false := by
  unfold clashB
  rw [pc_past h hk hj, pc_past h hj hk]
  have : ovB (pc p R N k) (pc p R N j) = false := by
    unfold ovB Pk.st
    rw [pc_fr h, pc_fr h]
    rcases Nat.lt_or_ge k j with h1 | h1
    · have h2 := pc_en h (k := k) (by omega)
      have h3 := pc_mono h h1
      rw [h2, decide_eq_false (p := ((j * R : Nat) : Int) < _) (by omega)]
      simp
    · have h2 := pc_en h (k := j) (by omega)
      have h3 := pc_mono h (k := j) (j := k) (by omega)
      rw [h2, decide_eq_false (p := ((k * R : Nat) : Int) < _) (by omega)]
      simp
  rw [this]
  rfl
theorem any_has {S : List Nat} {k : Nat} : (S.map (pc p R N)).any (hasB (pc p R N k)) = decide (k ∈ S) := by
  rw [List.any_map]
  by_cases e : k ∈ S
  · rw [decide_eq_true e, List.any_eq_true]
    exact ⟨k, e, by simp [pc_has h]⟩
  · rw [decide_eq_false e, List.any_eq_false]
    intro j hj
    simp only [Function.comp, pc_has h, decide_eq_true_eq]
    intro ee
    rw [ee] at hj
    exact e hj
theorem fits_pc {S : List Nat} {k : Nat} (hk : k ≤ N) (hS : ∀ s ∈ S, s ≤ N) (hn : k ∉ S) (hl : S.length < 64) : fitsL (S.map (pc p R N)) (pc p R N k) = true := by
  unfold fitsL
  have h1 := pc_enle h hk
  have h2 := h.ll
  have h3 : ((pc p R N k).op.size : Int) ≤ 40 := (may_fine (pc_may h hk)).ol
  rw [decide_eq_true (by omega), decide_eq_true (by rw [List.length_map]; exact hl)]
  have : (S.map (pc p R N)).any (clashB (pc p R N k)) = false := by
    rw [List.any_map, List.any_eq_false]
    intro j hj
    simp only [Function.comp]
    rw [pc_clash h hk (hS j hj) (fun e => hn (by rw [e]; exact hj))]
    simp
  rw [this]
  rfl
def insN (S : List Nat) (i k : Nat) : List Nat := S.take i ++ k :: S.drop i
omit h in
theorem ins_map (S : List Nat) (i k : Nat) : insL (S.map (pc p R N)) i (pc p R N k) = (insN S i k).map (pc p R N) := by
  unfold insL insN
  rw [List.map_append, List.map_cons, List.map_take, List.map_drop]
omit h in
theorem insN_mem {S : List Nat} {i k x : Nat} : x ∈ insN S i k ↔ x = k ∨ x ∈ S := by
  unfold insN
  constructor
  · intro hx
    rcases List.mem_append.1 hx with hx | hx
    · exact Or.inr (List.mem_of_mem_take hx)
    · rcases List.mem_cons.1 hx with hx | hx
      · exact Or.inl hx
      · exact Or.inr (List.mem_of_mem_drop hx)
  · rintro (rfl | hx)
    · exact List.mem_append_right _ (List.mem_cons_self ..)
    · rw [← List.take_append_drop i S] at hx
      rcases List.mem_append.1 hx with hx | hx
      · exact List.mem_append_left _ hx
      · exact List.mem_append_right _ (List.mem_cons_of_mem _ hx)
theorem insN_rise {S : List Nat} {i k : Nat} (hS : S.Pairwise (· < ·)) (hn : k ∉ S) (hc : Cutp (S.map (pc p R N)) (pc p R N k).fr i i) : (insN S i k).Pairwise (· < ·) := by
  obtain ⟨h1, h2⟩ := cut_fr hc
  rw [← List.map_take] at h1
  rw [← List.map_drop] at h2
  unfold insN
  rw [List.pairwise_append, List.pairwise_cons]
  have a1 : ∀ s ∈ S.take i, s < k := fun s hs => (pc_lt h).1 (h1 _ (List.mem_map_of_mem hs))
  have a2 : ∀ s ∈ S.drop i, k < s := fun s hs => by
    have := h2 _ (List.mem_map_of_mem hs)
    have h3 : ¬ s < k := fun e => by have := (pc_lt h).2 e; omega
    have h4 : s ≠ k := fun e => hn (by rw [← e]; exact List.mem_of_mem_drop hs)
    omega
  refine ⟨hS.sublist (List.take_sublist _ _), ⟨a2, hS.sublist (List.drop_sublist _ _)⟩, fun x hx y hy => ?_⟩
  have := a1 x hx
  rcases List.mem_cons.1 hy with rfl | hy
  · exact this
  · have := a2 y hy; omega
theorem gl : ∀ (T : List Nat) (c : Nat), T.Pairwise (· < ·) → (∀ t ∈ T, t ≤ N) → c ≤ N → (gapless ((c * R : Nat) : Int) (T.map (pc p R N)) = true → T = List.range' c T.length)
  | [], _, _, _, _, _ => rfl
  | t :: r, c, hp, hN, hc, hg => by
    rw [List.map_cons, gapless_cons, pc_fr h] at hg
    simp only [Bool.and_eq_true, decide_eq_true_eq] at hg
    have htc : t = c := Nat.eq_of_mul_eq_mul_right (m := R) (by have := h.r8; omega) (by omega)
    subst htc
    have hr := (List.pairwise_cons.1 hp).1
    have hen : ((t * R : Nat) : Int) + ((pc p R N t).da.size : Int) = (pc p R N t).en := by unfold Pk.en; rw [pc_fr h]
    rw [hen] at hg
    rw [List.length_cons, List.range'_succ]
    congr 1
    rcases Nat.lt_or_ge t N with h1 | h1
    · rw [pc_en h h1] at hg
      exact gl r (t + 1) (List.pairwise_cons.1 hp).2 (fun x hx => hN x (List.mem_cons_of_mem _ hx)) h1 hg.2
    · cases r with
      | nil => rfl
      | cons y r' =>
        have := hr y (List.mem_cons_self ..)
        have := hN y (by simp)
        omega
omit h in
theorem all_range : ∀ (T : List Nat) (c : Nat), T.Pairwise (· < ·) → (∀ t ∈ T, c ≤ t ∧ t ≤ N) → (∀ x, c ≤ x → x ≤ N → x ∈ T) → T = List.range' c (N + 1 - c)
  | [], c, _, _, hx => by
    have : N + 1 - c = 0 := by
      apply Classical.byContradiction
      intro e
      have := hx c (Nat.le_refl _) (by omega)
      cases this
    rw [this]; rfl
  | t :: r, c, hp, hN, hx => by
    have ht := hN t (List.mem_cons_self ..)
    have htc : t = c := by
      have := hx c (Nat.le_refl _) (by omega)
      rcases List.mem_cons.1 this with e | e
      · exact e.symm
      · have := (List.pairwise_cons.1 hp).1 c e; omega
    subst htc
    rw [show N + 1 - t = (N - t) + 1 by omega, List.range'_succ]
    congr 1
    rw [show N - t = N + 1 - (t + 1) by omega]
    refine all_range r (t + 1) (List.pairwise_cons.1 hp).2 (fun x hx' => ⟨(List.pairwise_cons.1 hp).1 x hx', (hN x (List.mem_cons_of_mem _ hx')).2⟩) (fun x h1 h2 => ?_)
    rcases List.mem_cons.1 (hx x (by omega) h2) with e | e
    · omega
    · exact e
theorem not_all {T : List Nat} (hp : T.Pairwise (· < ·)) (hN : ∀ t ∈ T, t ≤ N) {x : Nat} (hx : x ≤ N) (hn : x ∉ T) : completeB (T.map (pc p R N)) = false := by
  cases hc : completeB (T.map (pc p R N)) with
  | false => rfl
  | true =>
    exfalso
    unfold completeB at hc
    rw [Bool.and_eq_true] at hc
    have hT := gl h T 0 hp hN (Nat.zero_le _) (by rw [Nat.zero_mul]; exact hc.1)
    have hl := hc.2
    unfold lastB at hl
    rw [List.getLast?_map] at hl
    cases hg : T.getLast? with
    | none => rw [hg] at hl; simp at hl
    | some t =>
      rw [hg] at hl
      simp only [Option.map_some, pc_mo h] at hl
      have htN : ¬ t < N := by simpa using hl
      have htm : t ∈ T := List.mem_of_getLast? hg
      have := hN t htm
      obtain rfl : t = N := by omega
      apply hn
      rw [hT]
      rw [List.mem_range'_1]
      rw [hT, List.mem_range'_1] at htm
      omega
omit h in
theorem cat_fold : ∀ (ps : List Pk) (a : ByteArray), (ps.foldl (fun a q => a ++ q.da) a).data.toList = a.data.toList ++ catL ps
  | [], a => by simp [catL]
  | q :: r, a => by
    rw [List.foldl_cons, cat_fold r]
    have : (a ++ q.da).data = a.data ++ q.da.data := by simp [ByteArray.data_append]
    rw [this]
    simp [catL]
theorem all_done {T : List Nat} (hT : T = List.range (N + 1)) : completeB (T.map (pc p R N)) = true ∧ (T.map (pc p R N))[0]? = some (pc p R N 0) ∧ catL (T.map (pc p R N)) = p.da.data.toList := by
  subst hT
  refine ⟨?_, ?_, ?_⟩
  · unfold completeB
    rw [Bool.and_eq_true]
    constructor
    · have go : ∀ (m c : Nat), c + m = N + 1 → gapless ((c * R : Nat) : Int) ((List.range' c m).map (pc p R N)) = true := by
        intro m
        induction m with
        | zero => intro c _; rfl
        | succ m ih =>
          intro c hcm
          rw [List.range'_succ, List.map_cons, gapless_cons, pc_fr h, decide_eq_true rfl, Bool.true_and]
          have hen : ((c * R : Nat) : Int) + ((pc p R N c).da.size : Int) = (pc p R N c).en := by unfold Pk.en; rw [pc_fr h]
          rw [hen]
          rcases Nat.lt_or_ge c N with h1 | h1
          · rw [pc_en h h1]
            exact ih (c + 1) (by omega)
          · obtain rfl : m = 0 := by omega
            rfl
      have := go (N + 1) 0 (by omega)
      rw [Nat.zero_mul] at this
      rw [List.range_eq_range']
      exact this
    · unfold lastB
      rw [List.getLast?_map, List.range_succ, List.getLast?_append]
      simp [pc_mo h]
  · simp
  · rw [← all_is h]
    have h1 := cat_fold (allP p R) ⟨#[]⟩
    have h2 := catD_all p R (by have := h.lo; omega)
    unfold catD at h2
    rw [h2] at h1
    simpa using h1.symm
end
end Go.Proofs.YthjbmloemmggaaaGreatDoor.Ip

namespace Go.Proofs.YthjbmloemmggaaaGreatDoor.Ip
open Go.RowKit Go.Maps
set_option maxRecDepth 100000
set_option linter.unusedVariables false
set_option linter.unusedSimpArgs false

def p1 : Pk := ⟨1, 2, 9, 0, 0, 0, false, false, ⟨#[]⟩, ⟨#[48, 49, 50, 51, 52, 53, 54, 55, 56, 57]⟩⟩
end Go.Proofs.YthjbmloemmggaaaGreatDoor.Ip
