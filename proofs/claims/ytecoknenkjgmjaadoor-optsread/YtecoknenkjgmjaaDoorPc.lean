/- What stands behind bytes that are read as options, where a byte 1 and a byte 0 come first, does not matter; and the contract of the laws' read. -/
import Derived.Test.YtecoknenkjgmjaaDoorPb
namespace Go.Proofs.YtecoknenkjgmjaaDoor
open Go.RowKit

theorem runO_app : ∀ (f : Nat) (L : List UInt8) (o o' : Op) (t : List UInt8), L.length < f → runO f L o = some o' → runL (L ++ 1 :: 0 :: t) o = some o'
  | 0, _, _, _, _, h, _ => absurd h (Nat.not_lt_zero _)
  | f + 1, [], o, o', t, _, h => by
    have h' : some o = some o' := h
    rw [List.nil_append, runL_one, runL_zero, h']
  | f + 1, k :: l, o, o', t, hf, h => by
    simp only [List.length_cons] at hf
    simp only [runO] at h
    by_cases e0 : k = 0
    · rw [if_pos e0] at h
      subst e0
      rw [List.cons_append, runL_zero, h]
    · rw [if_neg e0] at h
      by_cases e1 : k = 1
      · rw [if_pos e1] at h
        subst e1
        rw [List.cons_append, runL_one]
        exact runO_app f l o o' t (by omega) h
      · rw [if_neg e1] at h
        cases l with
        | nil => cases h
        | cons n l' =>
          simp only [List.length_cons] at hf
          simp only at h
          by_cases e2 : n.toNat < 2 ∨ l'.length + 2 < n.toNat
          · rw [if_pos e2] at h; cases h
          · rw [if_neg e2] at h
            cases hs : stepO o (k.toNat : Int) (l'.take (n.toNat - 2)) with
            | none => rw [hs] at h; cases h
            | some o1 =>
              rw [hs] at h
              have hr := runO_app f (l'.drop (n.toNat - 2)) o1 o' t (by rw [List.length_drop]; omega) h
              have e : k :: n :: l' ++ 1 :: 0 :: t = k :: n :: (l'.take (n.toNat - 2) ++ (l'.drop (n.toNat - 2) ++ 1 :: 0 :: t)) := by
                rw [← List.append_assoc, List.take_append_drop]; rfl
              rw [e, runL_part k n _ _ o o1 e0 e1 (by rw [List.length_take]; omega) hs]
              exact hr
theorem dec_tail (l t : List UInt8) (o : Op) (h : decO l = some o) (hl : l.length + 2 + t.length ≤ 40) : decO (l ++ 1 :: 0 :: t) = some o := by
  have hm := decO_may h
  unfold decO at h
  rw [if_neg (by omega)] at h
  cases hr : runO 41 l Op.zero with
  | none => rw [hr] at h; cases h
  | some o1 =>
    rw [hr] at h
    simp only at h
    have ho : o1 = o := by
      split at h
      · exact Option.some.inj h
      · cases h
    subst ho
    exact decO_run _ _ (by simp only [List.length_append, List.length_cons]; omega) (runO_app 41 l _ _ t (by omega) hr) hm
theorem dec_short {l : List UInt8} {o : Op} (h : decO l = some o) : o.rs.length ≤ 4 := mayO_short (decO_may h)
def gotO (l : List UInt8) : Op := (decO l).getD Op.zero
theorem gotO_short (l : List UInt8) : (gotO l).rs.length ≤ 4 := by
  unfold gotO
  cases h : decO l with
  | none => exact Nat.zero_le _
  | some o => exact dec_short h
theorem dec_got (s : ByteArray) (w : World) (hG : Ord w) (hs : s.size ≤ 1125899906842624) : Calls Tryd.prog 20 #[.string s] w fun en w' => ∃ v c, en = .returned (.tuple #[.agg #[.int .i64 (gotO s.data.toList).m, .int .i64 (gotO s.data.toList).c, .int .i64 (gotO s.data.toList).t, .int .i64 (gotO s.data.toList).ec, .bool (gotO s.data.toList).sd, .bool (gotO s.data.toList).ok, .bool (gotO s.data.toList).sp, v], .int .i64 c]) ∧ w'.ownsRow w.heap.size 35 2 v (gotO s.data.toList).rs.length (flatR (gotO s.data.toList).rs) ∧ Below w.heap.size w w' := by
  have := dec_any s w hG hs
  unfold gotO
  cases h : decO s.data.toList with
  | none =>
    rw [h] at this
    refine this.mono ?_
    rintro en w' ⟨rfl, hb⟩
    exact ⟨.slice none 0 0, 70, rfl, World.ownsRow_nil _ _ _ _, hb⟩
  | some o =>
    rw [h] at this
    refine this.mono ?_
    rintro en w' ⟨v, rfl, ho, hb⟩
    exact ⟨v, 0, rfl, ho, hb⟩
set_option maxRecDepth 100000 in
theorem lread_any (s : ByteArray) (w : World) (hG : Ord w) (hs : s.size ≤ 1125899906842624) : Calls Tryd.prog 23 #[.string s] w fun en w' => ∃ v, en = .returned (.agg #[.int .i64 (gotO s.data.toList).m, .int .i64 (gotO s.data.toList).c, .int .i64 (gotO s.data.toList).t, .int .i64 (gotO s.data.toList).ec, .bool (gotO s.data.toList).sd, .bool (gotO s.data.toList).ok, .bool (gotO s.data.toList).sp, v]) ∧ Rgs w' v (gotO s.data.toList).rs ∧ Below w.heap.size w w' := by
  have hb1 := bel1 w (.cells #[.int .i64 0, .int .i64 0, .int .i64 0, .int .i64 0, .bool false, .bool false, .bool false, .slice none 0 0] 24)
  have hR := At.box w #[.int .i64 0, .int .i64 0, .int .i64 0, .int .i64 0, .bool false, .bool false, .bool false, .slice none 0 0] 24
  have hd := dec_got s _ (hG.later hb1) hs
  generalize gotO s.data.toList = X at *
  go_enter Tryd.func23, Tryd.ntmps23
  go_wp2_with fail
  refine hd.mono ?_
  rintro en w1 ⟨v, c, rfl, ho, hb⟩
  obtain ⟨a, cap, hvv, -, -⟩ := own_slice ho
  subst hvv
  obtain ⟨⟨r0, r1, r2, r3, r4, r5, r6, r7⟩, ⟨g0, g1, g2, g3, g4, g5, g6, g7⟩, -⟩ := (hR.later hb).eight
  have hBB := below8 (bt hb1 hb) (Nat.le_refl _) (.int .i64 X.m) (.int .i64 X.c) (.int .i64 X.t) (.int .i64 X.ec) (.bool X.sd) (.bool X.ok) (.bool X.sp) (.slice a X.rs.length cap)
  have hsz : (w.alloc (.cells #[.int .i64 0, .int .i64 0, .int .i64 0, .int .i64 0, .bool false, .bool false, .bool false, .slice none 0 0] 24)).heap.size = w.heap.size + 1 := by simp
  rw [hsz] at ho
  have ho8 := own_set8 ho w.heap.size (by omega) (.int .i64 X.m) (.int .i64 X.c) (.int .i64 X.t) (.int .i64 X.ec) (.bool X.sd) (.bool X.ok) (.bool X.sp) (.slice a X.rs.length cap)
  have hlt : w.heap.size < w1.heap.size := Nat.lt_of_lt_of_le (by rw [hsz]; exact Nat.lt_succ_self _) hb.size
  clear hd hsz
  go_wp2
  exact bodyPost_ret (v := .agg #[.int .i64 X.m, .int .i64 X.c, .int .i64 X.t, .int .i64 X.ec, .bool X.sd, .bool X.ok, .bool X.sp, (.slice a X.rs.length cap)]) (by simp [results, Tryd.results23, go_sem, hlt, r0, r1, r2, r3, r4, r5, r6, r7]) rfl ⟨_, rfl, Rgs.of_own (ho8.alloc _), bt hBB (bel1 _ _)⟩
end Go.Proofs.YtecoknenkjgmjaaDoor
