/- others and ways: the ports to which a frame goes. -/
import Derived.Test.YtajknafmlghcgaaBd
import Derived.OwnWalk
import Derived.WalkSpells
namespace Go.Proofs.Ytajknafmlghcgaa
open Go.RowKit Go.Maps
set_option maxRecDepth 100000
set_option linter.unusedVariables false
set_option linter.unusedSimpArgs false

/-- A slice of numbers of its own memory, from base on. -/
def Ints (w : World) (base : Nat) (v : Value) (zs : List Int) : Prop := w.ownsRow base 3 1 v zs.length (zs.map (Value.int .i64))
theorem Ints.nil (w : World) (base : Nat) : Ints w base (.slice none 0 0) [] := World.ownsRow_nil _ _ _ _
theorem info3 : (Try.prog.info? 3).map (fun i => (i.zero, i.size, i.bytes)) = some (some (.int .i64 0), 1, 8) := by kernel_rfl
theorem one_news {X : World} {x : Addr} {t : Int} (h : X.cell? x = some (.int .i64 t)) : ∀ j y, [Value.int .i64 t][j]? = some y → X.cell? (x.add j) = some y := by
  intro j y hy
  have hj : j = 0 := by have := (List.getElem?_eq_some_iff.1 hy).1; simpa using this
  subst hj
  obtain rfl : y = .int .i64 t := by simpa using hy.symm
  rw [show x.add 0 = x by simp [Addr.add]]
  exact h
theorem own_ge {w : World} {base : Nat} {v : Value} {zs : List Int} (h : Ints w base v zs) : ∀ j, v.ownBlock = some j → base ≤ j := by
  intro j hj
  rcases h.2 with ⟨rfl, -⟩ | ⟨g, cap, cur, rfl, hg, -⟩
  · simp [Value.ownBlock] at hj
  · simp [Value.ownBlock] at hj; omega
/-- append of one number. -/
theorem wpList_append1 {w : World} {ops : Array Oper} {rest : List Oper} {o : Oper} {a : Act} {Q : Exit → Act → World → Prop} (hgd : o.guard = none) (s x : Operand)
    (ho : o.op = .call { callee := .builtin .append, args := #[s, x], argTypes := #[39, 39] }) (base : Nat) (v : Value) (zs : List Int) (t : Int) (hs : a.eval s = v) (hown : Ints w base v zs) (hx : a.eval x = .slice (some ⟨w.heap.size, 0, none⟩) 1 1) (hbase : base ≤ w.heap.size) (hlen : zs.length < 1000000)
    (h : ∀ v' w', Ints w' base v' (zs ++ [t]) → Below base w w' → Turn (fun k => v.ownBlock = some k) w w' → wpList Try.prog ops Q rest (a.put o.dst v') w') : wpList Try.prog ops Q (o :: rest) a (w.alloc (.cells #[.int .i64 t] 3)) := by
  obtain ⟨i0, hi, hz0, hz1, hz2⟩ := info_parts info3
  refine wpList_append_own _ hgd s x 39 ho base 3 i0 (.int .i64 0) 1 8 Try.underlying39 hi hz0 hz1 hz2 rfl (by decide) v zs.length (zs.map (Value.int .i64)) hs (World.ownsRow.alloc hown _) ⟨w.heap.size, 0, none⟩ 1 1 [.int .i64 t] hx rfl (one_news ((At.box w #[.int .i64 t] 3).2 0 _ rfl).1) (by simp [Value.oneCell']) (by unfold maxLen; omega) (by omega) (Nat.le_trans hbase (bel1 w _).size) ?_
  intro v' w' h1 h2 h3
  have hT : Turn (fun k => v.ownBlock = some k) w w' := (Turn.of_below (bel1 w _)).and h2 (fun j hj => Or.inl hj)
  refine h v' w' ?_ (hT.below hbase (fun k hk he => by have := own_ge hown k he; omega)) hT
  unfold Ints
  simpa using h1
def othL (from_ : Int) (n : Nat) : List Int := ((List.range n).map (fun i : Nat => (i : Int))).filter fun p => p != from_
theorem oth_zero (f : Int) : othL f 0 = [] := rfl
theorem oth_succ (f : Int) (n : Nat) : othL f (n + 1) = if (n : Int) = f then othL f n else othL f n ++ [(n : Int)] := by
  unfold othL
  rw [List.range_succ, List.map_append, List.filter_append]
  by_cases h : (n : Int) = f
  · simp [h]
  · simp [h]
theorem oth_len (f : Int) (n : Nat) : (othL f n).length ≤ n := by
  unfold othL
  exact Nat.le_trans (List.length_filter_le _ _) (by simp)
set_option maxHeartbeats 1000000 in
theorem others_any (B M : Nat) (po ag ro la : Int) (from_ : Int) (w : World) (hB : At w B (brV po ag ro la M)) (h0 : 1 ≤ po) (h1 : po ≤ 16) :
    Calls Try.prog 38 #[.pointer (some ⟨B, 0, none⟩), .int .i64 from_] w fun e w' => ∃ v, e = .returned v ∧ Ints w' w.heap.size v (othL from_ po.toNat) ∧ Below w.heap.size w w' := by
  have c0 : w.cell? ⟨B, 0, none⟩ = some (.int .i64 po) := (hB.2 0 _ rfl).1
  go_enter Try.func38, Try.ntmps38
  go_wp2
  go_loopw [5, 11] (fun out c wr => ∃ (k : Nat) (v : Value), v = out ∧ k ≤ po.toNat ∧ c = .int .i64 (k : Int) ∧ Ints wr w.heap.size v (othL from_ k) ∧ Below w.heap.size w wr) (fun _ c _ => po.toNat - (intOf c).toNat)
  case atStart => exact ⟨0, _, rfl, Nat.zero_le _, rfl, Ints.nil _ _, Below.refl _ _⟩
  case round =>
    obtain ⟨k, v, rfl, hk, rfl, hI, hb⟩ := hrel
    have hlen := oth_len from_ k
    by_cases hlt : (k : Int) < po
    · by_cases hf : (k : Int) = from_
      · subst hf
        go_wp2
        go_roundw
        case rel => exact ⟨k + 1, _, rfl, by omega, by simp, by rw [oth_succ, if_pos rfl]; exact hI, hb⟩
        case measure => simp [intOf]; omega
      · go_wp2_with (first
          | (at_builtin; refine wpList_append1 rfl _ _ rfl w.heap.size v (othL from_ k) (k : Int) rfl hI rfl hb.size (by omega) ?_; intro v2 w2 hI2 hb2 ht2)
          | go_in)
        go_roundw
        case rel => exact ⟨k + 1, _, rfl, by omega, by simp, by rw [oth_succ, if_neg hf]; exact hI2, hb.trans hb2⟩
        case measure => simp [intOf]; omega
    · have hkp : po.toNat = k := by omega
      go_wp2
      go_ret
      exact ⟨_, rfl, hI, hb⟩
def waysL (po : Int) (l : List En) (from_ td : Int) : List Int :=
  match lk l td with
  | some c => if macB td && grpB td then othL from_ po.toNat else if c.1 = from_ then [] else [c.1]
  | none => othL from_ po.toNat
theorem ints_one (w : World) (t : Int) : Ints (w.alloc (.cells #[.int .i64 t] 3)) w.heap.size (.slice (some ⟨w.heap.size, 0, none⟩) 1 1) [t] := World.ownsRow_lit w #[.int .i64 t] 1 (Nat.le_refl _) (by unfold maxLen; omega) rfl
theorem Ints.below {w : World} {b b' : Nat} {v : Value} {zs : List Int} (h : Ints w b v zs) (hb : b' ≤ b) : Ints w b' v zs := by
  obtain ⟨h1, h2⟩ := h
  refine ⟨h1, ?_⟩
  rcases h2 with h | ⟨g, cap, cur, a1, a2, a3⟩
  · exact Or.inl h
  · exact Or.inr ⟨g, cap, cur, a1, Nat.le_trans hb a2, a3⟩
set_option maxHeartbeats 1000000 in
theorem ways_any (B M : Nat) (po ag ro la : Int) (from_ td : Int) (l : List En) (w : World) (hB : At w B (brV po ag ro la M)) (hM : Lrn w M l) (h0 : 1 ≤ po) (h1 : po ≤ 16) (ht : (Lit.int .i64 td).wf = true) :
    Calls Try.prog 29 #[.pointer (some ⟨B, 0, none⟩), .int .i64 from_, .int .i64 td] w fun e w' => ∃ v, e = .returned v ∧ Ints w' w.heap.size v (waysL po l from_ td) ∧ Below w.heap.size w w' := by
  have c4 : w.cell? ⟨B, 4, none⟩ = some (.map (some M)) := (hB.2 4 _ rfl).1
  go_enter Try.func29, Try.ntmps29
  go_upto_region 1 with fail
  go_wp2_with (first
    | (at_lookup; refine wpList_lookup_h rfl _ _ rfl M l td ht rfl hM rfl ?_; intro p0 t0 hpt)
    | (go_at_call 22; fail))
  have hb1 := bel1 w (.cells #[.int .i64 p0, .int .i64 t0] 65)
  have hB1 := hB.later hb1
  have hH := At.box w #[.int .i64 p0, .int .i64 t0] 65
  generalize w.alloc (.cells #[.int .i64 p0, .int .i64 t0] 65) = w1 at *
  have d0 : w1.cell? ⟨w.heap.size, 0, none⟩ = some (.int .i64 p0) := (hH.2 0 _ rfl).1
  refine (pgroup_any td w1).mono ?_
  rintro e w2 ⟨rfl, rfl⟩
  cases hq : lk l td with
  | none =>
    have hL : waysL po l from_ td = othL from_ po.toNat := by unfold waysL; rw [hq]
    rcases Bool.eq_false_or_eq_true (macB td && grpB td) with hg | hg <;> rw [hg]
    all_goals
      go_wp2_with fail
      refine (others_any B M po ag ro la from_ _ hB1 h0 h1).mono ?_
      rintro e w3 ⟨v, rfl, hI, hb2⟩
      go_wp2
      go_ret
      exact ⟨_, rfl, by rw [hL]; exact hI.below hb1.size, bt hb1 hb2⟩
  | some c =>
    have hc : c = (p0, t0) := by rw [hq] at hpt; exact hpt
    subst hc
    rcases Bool.eq_false_or_eq_true (macB td && grpB td) with hg | hg
    · have hL : waysL po l from_ td = othL from_ po.toNat := by unfold waysL; rw [hq]; simp [hg]
      rw [hg]
      go_wp2_with fail
      refine (others_any B M po ag ro la from_ _ hB1 h0 h1).mono ?_
      rintro e w3 ⟨v, rfl, hI, hb2⟩
      go_wp2
      go_ret
      exact ⟨_, rfl, by rw [hL]; exact hI.below hb1.size, bt hb1 hb2⟩
    · rw [hg]
      by_cases hp : p0 = from_
      · have hL : waysL po l from_ td = [] := by unfold waysL; rw [hq]; simp [hg, hp]
        subst hp
        go_wp2
        go_ret
        exact ⟨_, rfl, by rw [hL]; exact Ints.nil _ _, hb1⟩
      · have hL : waysL po l from_ td = [p0] := by unfold waysL; rw [hq]; simp [hg, hp]
        have hI := (ints_one w2 p0).below hb1.size
        have hb2 := bel1 w2 (.cells #[.int .i64 p0] 3)
        go_wp2
        go_ret
        exact ⟨_, rfl, by rw [hL]; exact hI, bt hb1 hb2⟩
def portL (l : List En) (ag k now : Int) : Int × Bool :=
  match lk l k with
  | some c => if c.2 + ag ≤ now then (0, false) else (c.1, true)
  | none => (0, false)
end Go.Proofs.Ytajknafmlghcgaa
