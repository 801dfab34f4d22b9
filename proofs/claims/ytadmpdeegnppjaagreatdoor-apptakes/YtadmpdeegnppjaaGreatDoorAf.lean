/- isName; what a value counts as; a session over the set of its blocks. -/
import Derived.Test.YtadmpdeegnppjaaGreatDoorAe
import Derived.Lib.OthersKept
namespace Go.Proofs.YtadmpdeegnppjaaGreatDoor
open Go.RowKit Go.Maps Go.Shelf Go.Lib
set_option maxRecDepth 100000
set_option linter.unusedVariables false
set_option linter.unusedSimpArgs false


theorem okN_nil : okName [] = false := rfl
theorem okN_all {s : By} (h0 : s ≠ []) (h1 : s.length ≤ 32) : okName s = s.all okByte := by
  unfold okName
  have e : s.isEmpty = false := by cases s with | nil => exact absurd rfl h0 | cons x r => rfl
  rw [e, decide_eq_true h1]
  rfl
theorem okN_long {s : By} (h1 : ¬ s.length ≤ 32) : okName s = false := by
  unfold okName
  rw [decide_eq_false h1]
  cases s.isEmpty <;> rfl
theorem B_get (s : By) (j : Nat) (h : j < (B s).size) : (B s)[j]'h = s[j]'(by rw [B_size] at h; exact h) := by
  rfl
set_option maxHeartbeats 1000000 in
/-- isName: a text of 1 to 32 bytes, each of them seen. -/
theorem name_any (s : By) (w : World) (hs : s.length ≤ 1000000) : Calls Tryz.prog 61 #[.string (B s)] w fun e w' => e = .returned (.bool (okName s)) ∧ Below w.heap.size w w' := by
  by_cases h0 : s = []
  · subst h0
    go_enter Tryz.func61, Tryz.ntmps61
    have q : ((B []).toList == ([] : By)) = true := by rw [B_tl]; rfl
    go_wp2
    go_ret
    exact ⟨rfl, Below.refl _ _⟩
  have q0 : ((B s).toList == ([] : By)) = false := by rw [B_tl]; exact beq_eq_false_iff_ne.2 h0
  by_cases h1 : s.length ≤ 32
  · rw [okN_all h0 h1]
    have hz : ¬ 32 < (B s).size := by rw [B_size]; omega
    have HS : Hid ((B s).size = s.length) := B_size s
    have H0 : Hid (s ≠ []) := h0
    clear h0
    go_enter Tryz.func61, Tryz.ntmps61
    go_wp2
    go_loopw [] (fun wr => ∃ pos : Nat, wr.heap[w.heap.size]? = some (.stringIter (B s) pos) ∧ Below w.heap.size w wr ∧ (s.take pos).all okByte = true ∧ pos ≤ s.length) (fun wr => (B s).size - wr.iterPos w.heap.size)
    case atStart =>
      exact ⟨0, World.iter_heap w (B s) 0, (Below.refl _ w).alloc (Nat.le_refl _) _, rfl, Nat.zero_le _⟩
    case round =>
      obtain ⟨pos, hit, hbw, hok, hle⟩ := hrel
      have hsz : w.heap.size < wr.heap.size := (Array.getElem?_eq_some_iff.1 hit).1
      by_cases hp : pos < (B s).size
      · have hpl : pos < s.length := by rw [← HS.out]; exact hp
        have hnx : ∀ ty, (Instr.next (.pointer (some ⟨w.heap.size, 0, none⟩)) true ty).run Tryz.prog wr = _ := fun ty => Lib.run_next_any_at wr w.heap.size (B s) pos ty hit hp
        by_cases ha : ((B s)[pos]'hp).toNat < 128
        · have hd := decode_ascii (B s) pos hp ha
          rw [hd] at hnx
          have hbg := B_get s pos hp
          have hit2 := Lib.iterAt_heap wr w.heap.size (B s) pos (pos + 1) hit
          have hbw2 := Lib.below_iterAt hbw (k := w.heap.size) (by omega) (B s) (pos + 1)
          rw [hbg] at hnx ha
          have hall : (s.take (pos + 1)).all okByte = okByte s[pos] := by
            rw [List.take_succ_eq_append_getElem hpl, List.all_append, hok]
            simp
          have HA : Hid _ := hall
          clear hd hbg hall
          generalize hx : s[pos] = x at hnx ha HA
          have h7 : (x.toNat : Int) < 128 := by omega
          have h8 : (0 : Int) ≤ (x.toNat : Int) := by omega
          by_cases hk : okByte x = true
          · have hk' := hk
            unfold okByte at hk'
            simp only [Bool.and_eq_true, decide_eq_true_eq] at hk'
            obtain ⟨hk1, hk2⟩ := hk'
            have hk1' : ¬ (x.toNat : Int) ≤ 32 := by omega
            have hk2' : ¬ (127 : Int) ≤ (x.toNat : Int) := by omega
            clear hx
            go_wp2
            go_roundw
            case rel => exact ⟨pos + 1, hit2, hbw2, by rw [HA.out]; exact hk, hpl⟩
            case measure =>
              simp only [World.iterPos, hit2, hit]
              omega
          · have hres : s.all okByte = false := by
              rw [← List.take_append_drop (pos + 1) s, List.all_append, HA.out]
              simp [hk]
            have HR : Hid _ := hres
            clear hres
            clear hx
            by_cases hk1 : x.toNat ≤ 32
            · have hk1' : (x.toNat : Int) ≤ 32 := by omega
              go_wp2
              go_ret
              exact ⟨congrArg (fun x => Ending.returned (Value.bool x)) HR.out.symm, hbw2⟩
            · have hk1' : ¬ (x.toNat : Int) ≤ 32 := by omega
              have hk2 : 127 ≤ x.toNat := by
                unfold okByte at hk
                simp only [Bool.and_eq_true, decide_eq_true_eq] at hk
                omega
              have hk2' : (127 : Int) ≤ (x.toNat : Int) := by omega
              go_wp2
              go_ret
              exact ⟨congrArg (fun x => Ending.returned (Value.bool x)) HR.out.symm, hbw2⟩
        · have hd := decode_high (B s) pos hp (by omega)
          have hd2 := decode_le (B s) pos
          have hbw2 := Lib.below_iterAt hbw (k := w.heap.size) (by omega) (B s) (pos + (Utf8.decode (B s) pos).2)
          have hres : s.all okByte = false := by
            rw [← List.take_append_drop (pos + 1) s, List.all_append, List.take_succ_eq_append_getElem hpl, List.all_append]
            have : okByte s[pos] = false := by
              rw [← B_get s pos hp]
              unfold okByte
              simp only [Bool.and_eq_false_imp, decide_eq_true_eq, decide_eq_false_iff_not]
              omega
            simp [this]
          have HR : Hid _ := hres
          clear hres
          generalize Utf8.decode (B s) pos = d at hnx hd hd2 hbw2
          have hk1' : ¬ (d.1 : Int) ≤ 32 := by omega
          have hk2' : (127 : Int) ≤ (d.1 : Int) := by omega
          have hk3' : (d.1 : Int) ≤ 2147483647 := by omega
          go_wp2
          go_ret
          exact ⟨congrArg (fun x => Ending.returned (Value.bool x)) HR.out.symm, hbw2⟩
      · have hnx : ∀ ty, (Instr.next (.pointer (some ⟨w.heap.size, 0, none⟩)) true ty).run Tryz.prog wr = _ := fun ty => Lib.run_next_end_at wr w.heap.size (B s) pos ty hit hp
        have hres : s.all okByte = true := by
          rw [List.take_of_length_le (by rw [← HS.out]; omega)] at hok
          exact hok
        have HR : Hid _ := hres
        clear hres
        go_wp2
        go_ret
        exact ⟨congrArg (fun x => Ending.returned (Value.bool x)) HR.out.symm, hbw⟩
  · rw [okN_long h1]
    have hz : 32 < (B s).size := by rw [B_size]; omega
    go_enter Tryz.func61, Tryz.ntmps61
    go_wp2
    go_ret
    exact ⟨rfl, Below.refl _ _⟩
abbrev encV (t : By) : Value := .agg #[.string (B t)]
theorem vnum_any {w : World} (h : Env w) (t : By) (ht : t.length ≤ 1000000) : Calls Tryz.prog 66 #[encV t] w fun e w' => e = .returned (.int .i64 (numV t)) ∧ Below w.heap.size w w' := by
  have hn := fun (W : World) (hW : Env W) => number_any hW t ht
  have HE : Hid _ := h
  clear h
  go_enter Tryz.func66, Tryz.ntmps66
  go_wp2_with fail
  refine (hn _ (HE.out.later (bel1 w _))).mono ?_
  rintro e w1 ⟨rfl, hb⟩
  go_wp2
  go_ret
  exact ⟨rfl, bt (bel1 w _) hb⟩
abbrev Bk := Nat → Prop
def Dj (A B : Bk) : Prop := ∀ k, A k → ¬ B k
/-- The set has taken new blocks alone. -/
def Gr (n : Nat) (A A' : Bk) : Prop := ∀ k, A' k → A k ∨ n ≤ k
def Lw (w : World) (A : Bk) : Prop := ∀ k, A k → k < w.heap.size
theorem Gr.refl (n : Nat) (A : Bk) : Gr n A A := fun _ h => Or.inl h
theorem Gr.trans {n m : Nat} {A B C : Bk} (h : Gr n A B) (g : Gr m B C) (hm : n ≤ m) : Gr n A C := fun k hk => by
  rcases g k hk with h1 | h1
  · exact h k h1
  · exact Or.inr (Nat.le_trans hm h1)
theorem Dj.symm {A B : Bk} (h : Dj A B) : Dj B A := fun k hb ha => h k ha hb
theorem Dj.gr {w : World} {A A' B : Bk} (h : Dj A B) (g : Gr w.heap.size A A') (hB : Lw w B) : Dj A' B := fun k hk hb => by
  rcases g k hk with h1 | h1
  · exact h k h1 hb
  · have := hB k hb; omega
theorem Lw.size {w w' : World} {A : Bk} (h : Lw w A) (hs : w.heap.size ≤ w'.heap.size) : Lw w' A := fun k hk => Nat.lt_of_lt_of_le (h k hk) hs
/-- What a call on one thing of its own has turned: blocks of its set alone. -/
theorem Turn.seq {A A' : Bk} {a b c : World} (h : Turn A a b) (k : Turn A' b c) (g : Gr a.heap.size A A') : Turn A a c := h.step k g
theorem Turn.keep {A B : Bk} {w w' : World} (h : Turn A w w') (hd : Dj A B) (hl : Lw w B) {k : Nat} (hk : B k) : w'.heap[k]? = w.heap[k]? := h.block k (hl k hk) (fun e => hd k e hk)

/-- A session: its box b, its map M, what came of its line (v); A: the blocks that are its own. -/
structure SY (w : World) (A : Bk) (b M : Nat) (v : Value) (s : St) : Prop where
  at_ : At w b #[.map (some M), v, .bool s.long, .bool s.over]
  vm : VS encV w M s.m
  bo : BO w 0 v s.line
  inb : A b
  inM : A M
  inv : ∀ k, v.ownBlock = some k → A k ∧ k ≠ b ∧ k ≠ M
  ne : b ≠ M
  lw : Lw w A
  lo : ∀ k, A k → 4 ≤ k
def SX (w : World) (A : Bk) (b : Nat) (s : St) : Prop := ∃ M v, SY w A b M v s
section
variable {w w' : World} {A S : Bk} {b M : Nat} {v : Value} {s : St}
theorem SY.turn (h : SY w A b M v s) (ht : Turn S w w') (hd : Dj S A) : SY w' A b M v s :=
  ⟨h.at_.turn ht (fun e => hd _ e h.inb), h.vm.turn ht (fun e => hd _ e h.inM), h.bo.turn ht (fun k hk e => hd _ e (h.inv k hk).1), h.inb, h.inM, h.inv, h.ne, h.lw.size ht.size, h.lo⟩
theorem SY.later (h : SY w A b M v s) (hb : Below w.heap.size w w') : SY w' A b M v s := h.turn (S := fun _ => False) (Turn.of_below hb) (fun _ e _ => e)
theorem SX.turn (h : SX w A b s) (ht : Turn S w w') (hd : Dj S A) : SX w' A b s := by
  obtain ⟨M, v, h⟩ := h
  exact ⟨M, v, h.turn ht hd⟩
theorem SX.later (h : SX w A b s) (hb : Below w.heap.size w w') : SX w' A b s := by
  obtain ⟨M, v, h⟩ := h
  exact ⟨M, v, h.later hb⟩
theorem SX.lw (h : SX w A b s) : Lw w A := by
  obtain ⟨M, v, h⟩ := h
  exact h.lw
theorem SX.lo (h : SX w A b s) : ∀ k, A k → 4 ≤ k := by
  obtain ⟨M, v, h⟩ := h
  exact h.lo
theorem At.four {W : World} {b : Nat} {v0 v1 v2 v3 : Value} (h : At W b #[v0, v1, v2, v3]) :
    b < W.heap.size ∧ (W.cell? ⟨b, 0, none⟩ = some v0 ∧ W.cell? ⟨b, 1, none⟩ = some v1 ∧ W.cell? ⟨b, 2, none⟩ = some v2 ∧ W.cell? ⟨b, 3, none⟩ = some v3) ∧ (W.frozen? ⟨b, 0, none⟩ = false ∧ W.frozen? ⟨b, 1, none⟩ = false ∧ W.frozen? ⟨b, 2, none⟩ = false ∧ W.frozen? ⟨b, 3, none⟩ = false) :=
  ⟨h.1, ⟨(h.2 0 _ rfl).1, (h.2 1 _ rfl).1, (h.2 2 _ rfl).1, (h.2 3 _ rfl).1⟩, ⟨(h.2 0 _ rfl).2, (h.2 1 _ rfl).2, (h.2 2 _ rfl).2, (h.2 3 _ rfl).2⟩⟩
/-- The map has turned, and nothing else. -/
theorem SY.put (h : SY w A b M v s) {m : Mp} (hv : VS encV w' M m) (ht : Turn (fun j => j = M) w w') : SY w' A b M v ⟨m, s.line, s.long, s.over⟩ :=
  ⟨h.at_.turn ht (fun e => h.ne e), hv, h.bo.turn ht (fun k hk e => (h.inv k hk).2.2 e), h.inb, h.inM, h.inv, h.ne, h.lw.size ht.size, h.lo⟩
theorem SY.tM (h : SY w A b M v s) {w' : World} (ht : Turn (fun j => j = M) w w') : Turn A w w' := ht.mono (fun k hk => by rw [hk]; exact h.inM)
end
end Go.Proofs.YtadmpdeegnppjaaGreatDoor
