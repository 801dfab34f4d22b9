/- The builder is written and read; the library's variables; numbers as texts. -/
import Derived.Test.YtadmpdeegnppjaaGreatDoorAc
import Derived.Deep.QuietTactic
namespace Go.Proofs.YtadmpdeegnppjaaGreatDoor
open Go.RowKit Go.Maps Go.Shelf Go.Lib
set_option maxRecDepth 100000
set_option linter.unusedVariables false
set_option linter.unusedSimpArgs false


/-- A row that lies where it lay, or from n on. -/
def Lies (v v' : Value) (n : Nat) : Prop := ∀ k, v'.ownBlock = some k → v.ownBlock = some k ∨ n ≤ k
abbrev SB (c : Nat) (v : Value) : Nat → Prop := fun k => k = c ∨ v.ownBlock = some k
section
variable {w w' : World} {ops : Array Oper} {rest : List Oper} {o : Oper} {a : Act} {Q : Exit → Act → World → Prop} {v y v' : Value} {t u : TypeId}
theorem wpList_appE (hgd : o.guard = none) (s x : Operand) (ho : o.op = .call { callee := .builtin .append, args := #[s, x], argTypes := #[t, u] }) (hs : a.eval s = v) (hx : a.eval x = y) (hr : (Builtin.append_ #[t, u] o.type #[v, y]).run Tryz.prog w = .ok v' w')
    (h : wpList Tryz.prog ops Q rest (a.put o.dst v') w') : wpList Tryz.prog ops Q (o :: rest) a w := by
  refine wpList_plain hgd fun K hK => ?_
  unfold Oper.wp execOp
  simp only [ho, resolve, invoke, builtin, Sem.run_bind, Sem.run_pure, Result.andThen_ok, List.map_toArray, List.map_cons, List.map_nil, hs, hx, hr]
  exact hK _ _ h
end
section
variable {w w' : World} {c : Nat} {v : Value} {bs : By}
theorem bu_store {w2 : World} {v' : Value} {xs : By} (h2 : w2.heap[c]? = some (.cells #[PB c, v] 50 (0, 0))) (hb : BO w2 0 v' xs) (hne : v'.ownBlock ≠ some c) (hnil : xs = [] → v' = .slice none 0 0) : BU (w2.setCell ⟨c, 1, none⟩ v') c v' xs :=
  ⟨⟨PB c, Or.inr rfl, (heap_set h2 v').2⟩, hb.turn (turn_set w2 c 1 v') (fun k hk e => hne (by rw [hk, e])), hne, hnil⟩
set_option maxHeartbeats 1000000 in
theorem wbyte_any (h : BU w c v bs) (b : UInt8) (hl : bs.length ≤ 1000000000000) :
    Calls Tryz.prog 23 #[PB c, .int .u8 (b.toNat : Int)] w fun e w' => e = .returned .nilIface ∧ ∃ v', BU w' c v' (bs ++ [b]) ∧ Turn (SB c v) w w' ∧ Lies v v' w.heap.size := by
  have hlt := h.lt
  have hne := h.ne
  have HC := copy_any h
  go_enter Tryz.func23, Tryz.ntmps23
  go_wp2_with fail
  refine HC.mono ?_
  rintro e w1 ⟨rfl, t1, hb1, bo1⟩
  clear HC
  have hA := BU.cells hb1
  have c1 := (hA.2 1 v rfl).1
  obtain ⟨v', w2, hr, hbo, ht, hown⟩ := app1 bo1 b hl 41
  have hs1 := t1.size
  have hlt1 : c < w1.heap.size := hA.1
  have hb2 : w2.heap[c]? = some (.cells #[PB c, v] 50 (0, 0)) := (ht.block c hlt1 (fun e => hne e)).trans hb1
  have hA2 := BU.cells hb2
  obtain ⟨d1, f1⟩ := hA2.2 1 v rfl
  have hne' : v'.ownBlock ≠ some c := by
    rcases hown with e | e <;> rw [e]
    · exact hne
    · intro q
      injection q with q
      omega
  have hfin : BU (w2.setCell ⟨c, 1, none⟩ v') c v' (bs ++ [b]) := bu_store hb2 hbo hne' (fun e => by simp at e)
  have htf : Turn (SB c v) w (w2.setCell ⟨c, 1, none⟩ v') := ((t1.mono (fun k hk => Or.inl hk)).trans (ht.mono (fun k hk => Or.inr hk))).trans ((turn_set w2 c 1 v').mono (fun k hk => Or.inl hk))
  have hli : Lies v v' w.heap.size := fun k hk => by
    rcases hown with e | e
    · exact Or.inl (by rw [← e]; exact hk)
    · rw [e] at hk; injection hk with hk; right; omega
  have hsh : ∃ a n k, v' = .slice a n k := by obtain ⟨a, k, e, -⟩ := hbo.shape; exact ⟨a, _, k, e⟩
  clear hbo ht hown hb2 hA hA2 bo1 hb1 t1 hne hne' h
  have HF : Hid _ := And.intro hfin (And.intro htf hli)
  clear hfin htf hli
  obtain ⟨a', n', k', rfl⟩ := hsh
  simp only [byV] at hr
  go_wp2_with (at_builtin; refine wpList_appE rfl _ _ rfl rfl rfl hr ?_)
  go_wp2
  go_ret
  exact ⟨rfl, _, HF.out⟩
set_option maxHeartbeats 1000000 in
theorem wstr_any (h : BU w c v bs) (l : By) (hl : bs.length + l.length ≤ 1000000000000) :
    Calls Tryz.prog 21 #[PB c, .string (B l)] w fun e w' => (∃ x, e = .returned (.tuple #[x, .nilIface])) ∧ ∃ v', BU w' c v' (bs ++ l) ∧ Turn (SB c v) w w' ∧ Lies v v' w.heap.size := by
  have hlt := h.lt
  have hne := h.ne
  have HC := copy_any h
  have hnil := h.nil
  go_enter Tryz.func21, Tryz.ntmps21
  go_wp2_with fail
  refine HC.mono ?_
  rintro e w1 ⟨rfl, t1, hb1, bo1⟩
  clear HC
  have hA := BU.cells hb1
  have c1 := (hA.2 1 v rfl).1
  obtain ⟨v', w2, hr, hbo, hg, hown⟩ := apps bo1 (B l) (by rw [B_size]; exact hl) 41
  rw [B_list] at hbo
  have hs1 := t1.size
  have hlt1 : c < w1.heap.size := hA.1
  have ht : Turn (fun k => v.ownBlock = some k) w1 w2 := Turn.of_grown hg (fun j hj => Or.inl hj)
  have hb2 : w2.heap[c]? = some (.cells #[PB c, v] 50 (0, 0)) := (ht.block c hlt1 (fun e => hne e)).trans hb1
  have hA2 := BU.cells hb2
  obtain ⟨d1, f1⟩ := hA2.2 1 v rfl
  have hne' : v'.ownBlock ≠ some c := by
    rcases hown with e | e <;> rw [e]
    · exact hne
    · intro q
      injection q with q
      omega
  have hz : bs ++ l = [] → v' = .slice none 0 0 := fun e => by
    obtain ⟨e1, e2⟩ := List.append_eq_nil_iff.1 e
    have hv := hnil e1
    subst e2 e1
    obtain ⟨i0, hi, hz0, hz1, hz2⟩ := info_parts info5
    obtain ⟨v2, w3, q1, q2, q3, q4⟩ := run_append_own_string (P := Tryz.prog) w1 0 41 9 41 5 i0 Tryz.underlying41 Tryz.underlying9 hi hz0 hz1 hz2 v 0 [] bo1 (B []) (by rw [B_size]; unfold maxLen; simp) (by rw [B_size]; simp) (Nat.zero_le _)
    rw [hr] at q1
    injection q1 with q1 q1'
    rw [q1]
    exact q4.2 ⟨hv, by rw [B_size]; rfl⟩
  have hfin : BU (w2.setCell ⟨c, 1, none⟩ v') c v' (bs ++ l) := bu_store hb2 hbo hne' hz
  have htf : Turn (SB c v) w (w2.setCell ⟨c, 1, none⟩ v') := ((t1.mono (fun k hk => Or.inl hk)).trans (ht.mono (fun k hk => Or.inr hk))).trans ((turn_set w2 c 1 v').mono (fun k hk => Or.inl hk))
  have hli : Lies v v' w.heap.size := fun k hk => by
    rcases hown with e | e
    · exact Or.inl (by rw [← e]; exact hk)
    · rw [e] at hk; injection hk with hk; right; omega
  have hsh : ∃ a n k, v' = .slice a n k := by obtain ⟨a, k, e, -⟩ := hbo.shape; exact ⟨a, _, k, e⟩
  clear hbo ht hown hb2 hA hA2 bo1 hb1 t1 hne hne' h hnil hz hg
  have HF : Hid _ := And.intro hfin (And.intro htf hli)
  clear hfin htf hli
  obtain ⟨a', n', k', rfl⟩ := hsh
  go_wp2_with (at_builtin; refine wpList_appE rfl _ _ rfl rfl rfl hr ?_)
  go_wp2
  go_ret2
  exact ⟨⟨_, rfl⟩, _, HF.out⟩
theorem turn_freeze (w : World) (g n : Nat) : Turn (fun k => k = g) w (w.freeze ⟨g, 0, none⟩ n) := by
  unfold World.freeze
  split
  · exact Turn.refl _
  · exact ⟨rfl, rfl, rfl, by simp, fun k hk hs => by
      simp only [Array.getElem?_modify]
      rw [if_neg (fun e => hs e.symm)]⟩
set_option maxHeartbeats 2000000 in
theorem str_any (h : BU w c v bs) (hl : bs.length ≤ 1000000000000) :
    Calls Tryz.prog 24 #[PB c] w fun e w' => e = .returned (.string (B bs)) ∧ Turn (SB c v) w w' := by
  obtain ⟨p, hp, hbk⟩ := h.blk
  clear hp
  cases hbs : bs with
  | nil =>
    have hv := h.nil hbs
    subst hv
    have hUS : ∀ W : World, (Builtin.unsafeString_ #[68, 3] 9 #[.pointer none, .int .i64 0]).run Tryz.prog W = .ok (.string .empty) W := fun W => Lib.run_unsafeString_none W _ _ _ none
    have c1 : w.drew.cell? ⟨c, 1, none⟩ = some (.slice none 0 0) := (BU.cells hbk).2 1 _ rfl |>.1
    have hSD : ∀ W : World, (Builtin.unsafeSliceData_ #[41] 68 #[.slice none 0 0]).run Tryz.prog W = .ok (.pointer none) W := fun W => rfl
    have htf : Turn (SB c (.slice none 0 0)) w w.drew := ⟨rfl, rfl, rfl, Nat.le_refl _, fun _ _ _ => rfl⟩
    clear h hbs hbk
    have HF : Hid _ := htf
    clear htf
    go_enter Tryz.func24, Tryz.ntmps24
    go_wp2
    go_region
    all_goals (go_wp2; go_ret; exact ⟨rfl, HF.out⟩)
  | cons x r =>
    rw [← hbs]
    have h0 : bs ≠ [] := by rw [hbs]; simp
    have hl0 : bs.length ≠ 0 := by simpa using h0
    clear hbs
    obtain ⟨g, cap, cur, rfl, hg0, hg, hnc, hcm, hcs, htake⟩ : ∃ g cap cur, v = .slice (some ⟨g, 0, none⟩) bs.length cap ∧ 0 ≤ g ∧ w.heap[g]? = some (.cells cur 5 (0, 0)) ∧ bs.length ≤ cap ∧ cap ≤ maxLen ∧ cur.size = cap * 1 ∧ cur.toList.take (bs.length * 1) = bs.map byV := by
      rcases h.bo.2 with ⟨e, hz⟩ | h'
      · exact absurd hz hl0
      · exact h'
    have c1 : w.drew.cell? ⟨c, 1, none⟩ = some (.slice (some ⟨g, 0, none⟩) bs.length cap) := (BU.cells hbk).2 1 _ rfl |>.1
    have hSD : (Builtin.unsafeSliceData_ #[41] 68 #[.slice (some ⟨g, 0, none⟩) bs.length cap]).run Tryz.prog w.drew = .ok (.pointer (some ⟨g, 0, none⟩)) w.drew :=
      Lib.run_unsafeSliceData_row _ _ _ _ _ _ (by omega)
    have hUS : (Builtin.unsafeString_ #[68, 3] 9 #[.pointer (some ⟨g, 0, none⟩), .int .i64 bs.length]).run Tryz.prog w.drew = .ok (.string ⟨bs.toArray⟩) (w.drew.freeze ⟨g, 0, none⟩ bs.length) := by
      refine Lib.run_unsafeString_row w.drew 68 3 9 5 Tryz.underlying68 (by kernel_rfl) g cur.size (by have hg' : w.drew.heap[g]? = some (.cells cur 5 (0, 0)) := hg; simp [World.shape?, hg']) bs h0 (by omega) (by omega) ?_
      intro j y hj
      rw [Addr.add_mid]
      have := BO.cell h.bo (j := j) (b := y) hj
      simpa [byV] using this
    have htf : Turn (SB c (.slice (some ⟨g, 0, none⟩) bs.length cap)) w (w.drew.freeze ⟨g, 0, none⟩ bs.length) :=
      (Turn.undrew (turn_freeze w.drew g bs.length)).mono (fun k hk => Or.inr (by rw [hk]; rfl))
    clear h hbk hg hcs htake hcm hnc hl0 h0
    have HF : Hid _ := htf
    clear htf
    go_enter Tryz.func24, Tryz.ntmps24
    go_wp2
    go_region
    all_goals (go_wp2; go_ret; exact ⟨rfl, HF.out⟩)
end
end Go.Proofs.YtadmpdeegnppjaaGreatDoor
