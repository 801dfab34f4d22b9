/- Rows of texts; Names; what LIST answers. -/
import Derived.Test.YtadmpdeegnppjaaGreatDoorAg
import Derived.Test.YtadmpdeegnppjaaGreatDoorSj
import Derived.Test.YtadmpdeegnppjaaGreatDoorSi
import Derived.Maps.AppendAt
import Derived.Laws.AppendOwnNone
import Derived.Lib.Join
namespace Go.Proofs.YtadmpdeegnppjaaGreatDoor
open Go.Shelf Go.Sort Go.RowKit Go.Maps Go.Lib
set_option maxRecDepth 100000
set_option linter.unusedVariables false
set_option linter.unusedSimpArgs false


/-- A row of texts. -/
def SO (w : World) (base : Nat) (v : Value) (xs : List By) : Prop := w.ownsRow base 9 1 v xs.length (xs.map fun x => Value.string (B x))
theorem SO.nil (w : World) (base : Nat) : SO w base (.slice none 0 0) [] := World.ownsRow_nil _ _ _ _
theorem SO.later {w w' : World} {base : Nat} {v : Value} {xs : List By} (h : SO w base v xs) (hb : Below w.heap.size w w') : SO w' base v xs := row_later h hb
theorem SO.low {w : World} {base b' : Nat} {v : Value} {xs : List By} (h : SO w base v xs) (hb : b' ≤ base) : SO w b' v xs := ⟨h.1, h.2.imp id (fun ⟨g, cap, cur, hv, hg, r⟩ => ⟨g, cap, cur, hv, Nat.le_trans hb hg, r⟩)⟩
theorem SO.shape {w : World} {base : Nat} {v : Value} {xs : List By} (h : SO w base v xs) : ∃ a c, v = .slice a xs.length c ∧ (a = none → xs = [] ∧ c = 0) ∧ xs.length ≤ c ∧ (∀ ad, a = some ad → ∃ g, ad = ⟨g, 0, none⟩ ∧ g < w.heap.size) := by
  rcases h.2 with ⟨rfl, h0⟩ | ⟨g, cap, cur, rfl, hg, hb, h1, h2⟩
  · rw [h0]; exact ⟨none, 0, rfl, fun _ => ⟨List.length_eq_zero_iff.1 h0, rfl⟩, Nat.le_refl _, fun ad e => by cases e⟩
  · exact ⟨some ⟨g, 0, none⟩, cap, rfl, (fun e => by cases e), h1, fun ad e => by cases e; exact ⟨g, rfl, (Array.getElem?_eq_some_iff.1 hb).1⟩⟩
theorem SO.cell {w : World} {base g : Nat} {n c : Nat} {xs : List By} (h : SO w base (.slice (some ⟨g, 0, none⟩) n c) xs) {j : Nat} {x : By} (hj : xs[j]? = some x) : w.cell? ⟨g, j, none⟩ = some (.string (B x)) := by
  have := h.cells (g := g) rfl j (.string (B x)) (by rw [List.getElem?_map, hj]; rfl)
  rw [Addr.add_mid] at this
  simpa using this
theorem SO.ge {w : World} {base : Nat} {v : Value} {xs : List By} (h : SO w base v xs) : ∀ k, v.ownBlock = some k → base ≤ k := by
  intro k hk
  rcases h.2 with ⟨rfl, -⟩ | ⟨g, cap, cur, rfl, hg, hb, -⟩
  · cases hk
  · cases hk; exact hg
theorem infoS : (Tryz.prog.info? 9).map (fun i => (i.zero, i.size, i.bytes)) = some (some (.string ⟨#[]⟩), 1, 16) := by kernel_rfl
/-- append of a row of texts to another one. -/
theorem apps_str {w : World} {v y : Value} {xs ys : List By} (h : SO w 0 v xs) (hy : SO w 0 y ys) (hl : xs.length + ys.length ≤ 1000000) (ty : TypeId) :
    ∃ v' w', (Builtin.append_ #[22, 22] ty #[v, y]).run Tryz.prog w = .ok v' w' ∧ SO w' 0 v' (xs ++ ys) ∧ w.grownBy w' v.ownBlock ∧ (v'.ownBlock = v.ownBlock ∨ v'.ownBlock = some w.heap.size) := by
  obtain ⟨i0, hi, hz0, hz1, hz2⟩ := info_parts infoS
  obtain ⟨a, c, rfl, ha, hc, hg⟩ := hy.shape
  cases a with
  | none =>
    obtain ⟨rfl, rfl⟩ := ha rfl
    refine ⟨v, w, ?_, by rw [List.append_nil]; exact h, ⟨rfl, rfl, rfl, Nat.le_refl _, fun _ _ _ => rfl⟩, Or.inl rfl⟩
    exact run_append_owned_none (P := Tryz.prog) w 0 22 ty 9 i0 1 Tryz.underlying22 hi v xs.length _ h
  | some ad =>
    obtain ⟨g, rfl, hgl⟩ := hg ad rfl
    obtain ⟨v', w', e1, e2, e3, -, e5⟩ := run_append_own_at (P := Tryz.prog) w 0 22 ty 9 i0 _ 1 16 Tryz.underlying22 hi hz0 hz1 hz2 rfl (by decide) v xs.length _ h ⟨g, 0, none⟩ ys.length c (ys.map fun x => Value.string (B x)) (by simp) (fun j u hu => by
      rw [List.getElem?_map] at hu
      cases hj : ys[j]? with
      | none => rw [hj] at hu; cases hu
      | some x =>
        rw [hj] at hu
        cases hu
        rw [Addr.add_mid]
        simpa using hy.cell hj) (fun u hu => by
      obtain ⟨x, -, rfl⟩ := List.mem_map.1 hu
      rfl) (by unfold maxLen; omega) (by omega) (Nat.zero_le _)
    refine ⟨v', w', e1, ?_, e3, e5⟩
    unfold SO
    rw [List.length_append, List.map_append]
    exact e2
theorem bb_lt : ∀ {a b : By}, bytesBefore a b = true → a < b
  | [], [], h => by simp [bytesBefore] at h
  | [], _ :: _, _ => List.nil_lt_cons _ _
  | _ :: _, [], h => by simp [bytesBefore] at h
  | x :: a, y :: b, h => by
    simp only [bytesBefore, Bool.or_eq_true, Bool.and_eq_true, decide_eq_true_eq, beq_iff_eq] at h
    rw [List.cons_lt_cons_iff]
    rcases h with h | ⟨h1, h2⟩
    · exact Or.inl h
    · exact Or.inr ⟨h1, bb_lt h2⟩
theorem sorted_eq : ∀ {a b : List By}, a.Perm b → a.Pairwise (· ≤ ·) → b.Pairwise (· ≤ ·) → a = b
  | [], b, hp, _, _ => by rw [List.nil_perm.1 hp]
  | x :: r, [], hp, _, _ => by cases List.perm_nil.1 hp
  | x :: r, y :: s, hp, ha, hb => by
    have hx : x ∈ y :: s := hp.mem_iff.1 (List.mem_cons_self ..)
    have hy : y ∈ x :: r := hp.mem_iff.2 (List.mem_cons_self ..)
    have e : x = y := by
      have h1 : y ≤ x := by
        rcases List.mem_cons.1 hx with h | h
        · rw [h]; exact List.le_refl _
        · exact (List.pairwise_cons.1 hb).1 _ h
      have h2 : x ≤ y := by
        rcases List.mem_cons.1 hy with h | h
        · rw [h]; exact List.le_refl _
        · exact (List.pairwise_cons.1 ha).1 _ h
      exact List.le_antisymm h2 h1
    subst e
    rw [sorted_eq (List.Perm.cons_inv hp) (List.pairwise_cons.1 ha).2 (List.pairwise_cons.1 hb).2]
theorem sort_is {a b : List By} (hp : a.Perm b) (hb : b.Pairwise (· ≤ ·)) : (a.mergeSort fun x y => decide (x ≤ y)) = b := by
  refine sorted_eq ((List.mergeSort_perm a _).trans hp) ?_ hb
  have := List.pairwise_mergeSort (le := fun x y : By => decide (x ≤ y)) (fun a b c h1 h2 => decide_eq_true (List.le_trans (of_decide_eq_true h1) (of_decide_eq_true h2))) (fun a b => by rcases List.le_total a b with h | h <;> simp [h]) a
  exact this.imp fun h => of_decide_eq_true h
theorem keys_sD (enc : By → Value) (l : Mp) : strKeys (sD enc l) = l.map (·.1) := by
  show (l.map fun e => ((Lit.string e.1, DataW.held (enc e.2)) : Lit × DataW Value)).map (fun p => strOf p.1) = l.map (·.1)
  rw [List.map_map]
  rfl
theorem keys_call (M : Nat) (w : World) : Calls Tryz.prog 27 #[.map (some M)] w fun e w' => e = .returned (.func (.func 41) #[] #[.pointer (some ⟨w.heap.size, 0, none⟩)]) ∧ w' = w.alloc (.cells #[.map (some M)] 40) :=
  (callsIn_wide (n := 5)).1 (Tryz.maps_Keys_27 (some M) w)
theorem sorted_call (M : Nat) (m : Mp) (w : World) (h : VS encV w M m) (hn : m.length < 1000000) :
    Calls Tryz.prog 26 #[.func (.func 41) #[] #[.pointer (some ⟨w.heap.size, 0, none⟩)]] (w.alloc (.cells #[.map (some M)] 40)) fun e w' => ∃ v, e = .returned v ∧ SO w' w.heap.size v (m.map (·.1)) ∧ Below w.heap.size w w' := by
  have cS := Tryz.slices_Sorted_keys_26_27 M m.length (sD encV m) hE w h.1 (by rw [size_sD]; unfold maxLen; omega) (by rw [size_sD]; omega)
  refine ((callsIn_wide (n := 5)).1 cS).mono ?_
  rintro e w' ⟨v, ss, rfl, hp, hrow, -, hb⟩
  rw [keys_sD] at hp
  have hr : (m.map (·.1)).Pairwise (· ≤ ·) := by
    rw [List.pairwise_map]
    exact h.2.imp fun h => List.le_of_lt (bb_lt h)
  rw [sort_is hp hr] at hrow
  refine ⟨v, rfl, ?_, bt (bel1 w _) hb⟩
  have hl := hp.length_eq
  rw [hl] at hrow
  exact (show SO w' _ v (m.map (·.1)) from hrow).low (by simp)
section
variable {w w' : World} {A : Bk} {b M : Nat} {v : Value} {s : St}
theorem names_any (h : SY w A b M v s) (hO : OkM s.m) :
    Calls Tryz.prog 10 #[PB b] w fun e w' => ∃ y, e = .returned y ∧ SO w' w.heap.size y (s.m.map (·.1)) ∧ Below w.heap.size w w' := by
  obtain ⟨hlt, ⟨c0, -, -, -⟩, -⟩ := h.at_.four
  have hS := sorted_call M s.m w h.vm (by have := hO.size; omega)
  have hK := keys_call M w
  clear h hO
  go_enter Tryz.func10, Tryz.ntmps10
  go_wp2_with fail
  refine hK.mono ?_
  rintro e w1 ⟨rfl, rfl⟩
  go_wp2_with fail
  refine hS.mono ?_
  rintro e w2 ⟨y, rfl, hy, hb⟩
  go_wp2
  go_ret
  exact ⟨y, rfl, hy, hb⟩
theorem join_list (m : Mp) : Go.Lib.join (cLIST :: m.map (·.1)) [32] = listF m := by
  rw [Go.Lib.join_cons]
  unfold Go.Lib.joinTail listF
  rw [List.map_map]
  rfl
theorem join_call {w : World} {y : Value} {xs : List By} (h : SO w 0 y xs) (hl : (Go.Lib.join xs [32]).length ≤ 1000000) (hx : xs.length ≤ 1000000) :
    Calls Tryz.prog 48 #[y, .string (B [32])] w fun e w' => e = .returned (.string (B (Go.Lib.join xs [32]))) ∧ Below w.heap.size w w' := by
  obtain ⟨a, c, rfl, ha, hc, hg⟩ := h.shape
  cases a with
  | none =>
    obtain ⟨rfl, rfl⟩ := ha rfl
    refine (Tryz.strings_Join_none none 0 (B [32]) w).mono ?_
    rintro e w' ⟨rfl, rfl⟩
    exact ⟨rfl, Below.refl _ _⟩
  | some ad =>
    obtain ⟨g, rfl, hgl⟩ := hg ad rfl
    have e1 : (xs.map B).map (fun x : ByteArray => x.data.toList) = xs := by
      rw [List.map_map]
      exact List.map_id'' (fun x => B_list x) xs
    have e2 : (B [32]).data.toList = [32] := rfl
    have := Tryz.strings_Join g 0 c (xs.map B) (B [32]) w (fun j x hj => by
      rw [List.getElem?_map] at hj
      cases hq : xs[j]? with
      | none => rw [hq] at hj; cases hj
      | some z =>
        rw [hq] at hj
        cases hj
        rw [Nat.zero_add]
        exact h.cell hq) hgl (by simp; omega) (by simpa using hc) (by rw [e1, e2]; omega)
    rw [e1, e2, List.length_map] at this
    exact this
end
end Go.Proofs.YtadmpdeegnppjaaGreatDoor
