/- The contracts of mayBe and Check of package seg: which segments may be; nothing that was there turns. -/
import Derived.Test.YtecoknenkjgmjabDoorSa
import Derived.Test.YtecoknenkjgmjabDoorOc
namespace Go.Proofs.YtecoknenkjgmjabDoor
open Go.RowKit
set_option maxRecDepth 100000
set_option linter.unusedVariables false

theorem size26 : (Tryd.prog.info? 26).map (·.size) = some 8 := by kernel_rfl
theorem At.mid {W : World} {b : Nat} {vs : Array Value} (h : At W b vs) (o n : Nat) : W.rangeAt b o ((vs.toList.drop o).take n) := fun j v hv => by
  refine (h.2 (o + j) v ?_).1
  rw [List.getElem?_take] at hv
  split at hv
  · rw [List.getElem?_drop] at hv; simpa using hv
  · cases hv
theorem At.opts {W : World} {b : Nat} {s : Sg} {v : Value} (h : At W b #[.int .i64 s.fr, .int .i64 s.dt, .int .i64 s.sq, .int .i64 s.ak, .int .i64 s.fl, .int .i64 s.wi, .int .i64 s.ur, .int .i64 s.o.m, .int .i64 s.o.c, .int .i64 s.o.t, .int .i64 s.o.ec, .bool s.o.sd, .bool s.o.ok, .bool s.o.sp, v, .string s.da]) : W.rangeAt b 7 #[.int .i64 s.o.m, .int .i64 s.o.c, .int .i64 s.o.t, .int .i64 s.o.ec, .bool s.o.sd, .bool s.o.ok, .bool s.o.sp, v].toList := h.mid 7 8
theorem mayG_t {s : Sg} (h1 : fitsB s.fr 65535 = true) (h2 : fitsB s.dt 65535 = true) (h3 : numB s.sq = true) (h4 : numB s.ak = true) (h5 : fitsB s.fl 63 = true) (h6 : fitsB s.wi 65535 = true) (h7 : fitsB s.ur 65535 = true) (ha : hasV s.fl 16 = true ∨ s.ak = 0) (hu : hasV s.fl 32 = true ∨ s.ur = 0) (hm : s.o.may = true) (hd : s.da.size ≤ 1480) : mayG s = true := by
  unfold mayG preG
  have e1 : (hasV s.fl 16 || decide (s.ak = 0)) = true := by
    rcases ha with h | h
    · rw [h]; rfl
    · rw [decide_eq_true h, Bool.or_true]
  have e2 : (hasV s.fl 32 || decide (s.ur = 0)) = true := by
    rcases hu with h | h
    · rw [h]; rfl
    · rw [decide_eq_true h, Bool.or_true]
  rw [h1, h2, h3, h4, h5, h6, h7, e1, e2, hm, decide_eq_true hd]; rfl
theorem ck_t {o : Op} {v : Value} (w : World) (hv : Rgs w v o.rs) (hn : o.rs.length ≤ 17592186044416) (hG : Ord w) (h : o.may = true) : Calls Tryd.prog 53 #[.agg #[.int .i64 o.m, .int .i64 o.c, .int .i64 o.t, .int .i64 o.ec, .bool o.sd, .bool o.ok, .bool o.sp, v]] w fun e w' => e = .returned (.int .i64 0) ∧ Below w.heap.size w w' := by
  have := check_o o.m o.c o.t o.ec o.sd o.ok o.sp v o.rs w hv hn hG
  rw [show mayO o.m o.c o.t o.ec o.sd o.ok o.sp o.rs = true from h, codeO_t] at this
  exact this
theorem ck_f {o : Op} {v : Value} (w : World) (hv : Rgs w v o.rs) (hn : o.rs.length ≤ 17592186044416) (hG : Ord w) (h : o.may = false) : Calls Tryd.prog 53 #[.agg #[.int .i64 o.m, .int .i64 o.c, .int .i64 o.t, .int .i64 o.ec, .bool o.sd, .bool o.ok, .bool o.sp, v]] w fun e w' => e = .returned (.int .i64 70) ∧ Below w.heap.size w w' := by
  have := check_o o.m o.c o.t o.ec o.sd o.ok o.sp v o.rs w hv hn hG
  rw [show mayO o.m o.c o.t o.ec o.sd o.ok o.sp o.rs = false from h, codeO_f] at this
  exact this
set_option maxHeartbeats 4000000 in
theorem may_s (s : Sg) (v : Value) (w : World) (hv : Rgs w v s.o.rs) (hn : s.o.rs.length ≤ 17592186044416) (hG : Ord w) :
    Calls Tryd.prog 28 #[.agg #[.int .i64 s.fr, .int .i64 s.dt, .int .i64 s.sq, .int .i64 s.ak, .int .i64 s.fl, .int .i64 s.wi, .int .i64 s.ur, .int .i64 s.o.m, .int .i64 s.o.c, .int .i64 s.o.t, .int .i64 s.o.ec, .bool s.o.sd, .bool s.o.ok, .bool s.o.sp, v, .string s.da]] w fun e w' => e = .returned (.bool (mayG s)) ∧ Below w.heap.size w w' := by
  have hA := At.box w #[.int .i64 s.fr, .int .i64 s.dt, .int .i64 s.sq, .int .i64 s.ak, .int .i64 s.fl, .int .i64 s.wi, .int .i64 s.ur, .int .i64 s.o.m, .int .i64 s.o.c, .int .i64 s.o.t, .int .i64 s.o.ec, .bool s.o.sd, .bool s.o.ok, .bool s.o.sp, v, .string s.da] 28
  have hl := bel1 w (.cells #[.int .i64 s.fr, .int .i64 s.dt, .int .i64 s.sq, .int .i64 s.ak, .int .i64 s.fl, .int .i64 s.wi, .int .i64 s.ur, .int .i64 s.o.m, .int .i64 s.o.c, .int .i64 s.o.t, .int .i64 s.o.ec, .bool s.o.sd, .bool s.o.ok, .bool s.o.sp, v, .string s.da] 28)
  have hr := hv.later hl
  replace hG := hG.later hl
  clear hv
  obtain ⟨⟨c0, c1, c2, c3, c4, c5, c6, c7, c8, c9, c10, c11, c12, c13, c14, c15⟩, -, -⟩ := hA.sixteen
  go_enter Tryd.func28, Tryd.ntmps28
  rcases (Bool.eq_false_or_eq_true (fitsB s.fr 65535)).symm with h1 | h1
  · go_wp2_with fail
    refine (fs_f _ h1).mono ?_
    rintro e w' ⟨rfl, rfl⟩
    have HM : Hid (mayG s = false) := by show _ = _; simp [mayG, preG, h1]
    go_wp2
    go_ret
    exact ⟨by rw [HM.out]; first | rfl | (congr 2; simp; omega), hl⟩
  go_wp2_with fail
  refine (fs_t _ h1).mono ?_
  rintro e w' ⟨rfl, rfl⟩
  rcases (Bool.eq_false_or_eq_true (fitsB s.dt 65535)).symm with h2 | h2
  · go_wp2_with fail
    refine (fs_f _ h2).mono ?_
    rintro e w' ⟨rfl, rfl⟩
    have HM : Hid (mayG s = false) := by show _ = _; simp [mayG, preG, h2]
    go_wp2
    go_ret
    exact ⟨by rw [HM.out]; first | rfl | (congr 2; simp; omega), hl⟩
  go_wp2_with fail
  refine (fs_t _ h2).mono ?_
  rintro e w' ⟨rfl, rfl⟩
  rcases (Bool.eq_false_or_eq_true (numB s.sq)).symm with h3 | h3
  · go_wp2_with fail
    refine (nm_f _ h3).mono ?_
    rintro e w' ⟨rfl, rfl⟩
    have HM : Hid (mayG s = false) := by show _ = _; simp [mayG, preG, h3]
    go_wp2
    go_ret
    exact ⟨by rw [HM.out]; first | rfl | (congr 2; simp; omega), hl⟩
  go_wp2_with fail
  refine (nm_t _ h3).mono ?_
  rintro e w' ⟨rfl, rfl⟩
  rcases (Bool.eq_false_or_eq_true (numB s.ak)).symm with h4 | h4
  · go_wp2_with fail
    refine (nm_f _ h4).mono ?_
    rintro e w' ⟨rfl, rfl⟩
    have HM : Hid (mayG s = false) := by show _ = _; simp [mayG, preG, h4]
    go_wp2
    go_ret
    exact ⟨by rw [HM.out]; first | rfl | (congr 2; simp; omega), hl⟩
  go_wp2_with fail
  refine (nm_t _ h4).mono ?_
  rintro e w' ⟨rfl, rfl⟩
  rcases (Bool.eq_false_or_eq_true (fitsB s.fl 63)).symm with h5 | h5
  · go_wp2_with fail
    refine (fs_f _ h5).mono ?_
    rintro e w' ⟨rfl, rfl⟩
    have HM : Hid (mayG s = false) := by show _ = _; simp [mayG, preG, h5]
    go_wp2
    go_ret
    exact ⟨by rw [HM.out]; first | rfl | (congr 2; simp; omega), hl⟩
  go_wp2_with fail
  refine (fs_t _ h5).mono ?_
  rintro e w' ⟨rfl, rfl⟩
  rcases (Bool.eq_false_or_eq_true (fitsB s.wi 65535)).symm with h6 | h6
  · go_wp2_with fail
    refine (fs_f _ h6).mono ?_
    rintro e w' ⟨rfl, rfl⟩
    have HM : Hid (mayG s = false) := by show _ = _; simp [mayG, preG, h6]
    go_wp2
    go_ret
    exact ⟨by rw [HM.out]; first | rfl | (congr 2; simp; omega), hl⟩
  go_wp2_with fail
  refine (fs_t _ h6).mono ?_
  rintro e w' ⟨rfl, rfl⟩
  rcases (Bool.eq_false_or_eq_true (fitsB s.ur 65535)).symm with h7 | h7
  · go_wp2_with fail
    refine (fs_f _ h7).mono ?_
    rintro e w' ⟨rfl, rfl⟩
    have HM : Hid (mayG s = false) := by show _ = _; simp [mayG, preG, h7]
    go_wp2
    go_ret
    exact ⟨by rw [HM.out]; first | rfl | (congr 2; simp; omega), hl⟩
  go_wp2_with fail
  refine (fs_t _ h7).mono ?_
  rintro e w' ⟨rfl, rfl⟩
  go_wp2_with (refine wpList_loadG 28 _ (by rfl) (by rfl) w.heap.size 0 (by rfl) _ _ hA.range Tryd.underlying28 rfl size28 ?_)
  rcases Bool.eq_false_or_eq_true (hasV s.fl 16) with ha | ha
  · refine (has_t s v 16 _ ha).mono ?_
    rintro e w1 ⟨rfl, hb⟩
    replace hl := bt hl hb
    replace hA := hA.later hb
    replace hr := hr.later hb
    replace hG := hG.later hb
    clear hb c0 c1 c2 c3 c4 c5 c6 c7 c8 c9 c10 c11 c12 c13 c14 c15
    obtain ⟨⟨c0, c1, c2, c3, c4, c5, c6, c7, c8, c9, c10, c11, c12, c13, c14, c15⟩, -, -⟩ := hA.sixteen
    go_wp2_with (refine wpList_loadG 28 _ (by rfl) (by rfl) w.heap.size 0 (by rfl) _ _ hA.range Tryd.underlying28 rfl size28 ?_)
    rcases Bool.eq_false_or_eq_true (hasV s.fl 32) with hu | hu
    · refine (has_t s v 32 _ hu).mono ?_
      rintro e w2 ⟨rfl, hb⟩
      replace hl := bt hl hb
      replace hA := hA.later hb
      replace hr := hr.later hb
      replace hG := hG.later hb
      clear hb c0 c1 c2 c3 c4 c5 c6 c7 c8 c9 c10 c11 c12 c13 c14 c15
      obtain ⟨⟨c0, c1, c2, c3, c4, c5, c6, c7, c8, c9, c10, c11, c12, c13, c14, c15⟩, -, -⟩ := hA.sixteen
      go_wp2_with (refine wpList_loadG 26 _ (by rfl) (by rfl) w.heap.size 7 (by rfl) _ _ hA.opts Tryd.underlying26 rfl size26 ?_)
      rcases (Bool.eq_false_or_eq_true s.o.may).symm with hm | hm
      · refine (ck_f _ hr hn hG hm).mono ?_
        rintro e w3 ⟨rfl, hb⟩
        replace hl := bt hl hb
        replace hA := hA.later hb
        replace hr := hr.later hb
        replace hG := hG.later hb
        clear hb c0 c1 c2 c3 c4 c5 c6 c7 c8 c9 c10 c11 c12 c13 c14 c15
        obtain ⟨⟨c0, c1, c2, c3, c4, c5, c6, c7, c8, c9, c10, c11, c12, c13, c14, c15⟩, -, -⟩ := hA.sixteen
        have HM : Hid (mayG s = false) := by show _ = _; simp [mayG, hm]
        go_wp2
        go_ret
        exact ⟨by rw [HM.out]; first | rfl | (congr 2; simp; omega), hl⟩
      refine (ck_t _ hr hn hG hm).mono ?_
      rintro e w3 ⟨rfl, hb⟩
      replace hl := bt hl hb
      replace hA := hA.later hb
      replace hr := hr.later hb
      replace hG := hG.later hb
      clear hb c0 c1 c2 c3 c4 c5 c6 c7 c8 c9 c10 c11 c12 c13 c14 c15
      obtain ⟨⟨c0, c1, c2, c3, c4, c5, c6, c7, c8, c9, c10, c11, c12, c13, c14, c15⟩, -, -⟩ := hA.sixteen
      by_cases hd : s.da.size ≤ 1480
      · have hd1 : (s.da.size : Int) ≤ 1480 := by omega
        have HM : Hid (mayG s = true) := by show _ = _; exact mayG_t h1 h2 h3 h4 h5 h6 h7 (.inl ha) (.inl hu) hm hd
        go_wp2
        go_ret
        exact ⟨by rw [HM.out]; first | rfl | (congr 2; simp; omega), hl⟩
      · have hd1 : ¬ (s.da.size : Int) ≤ 1480 := by omega
        have HM : Hid (mayG s = false) := by show _ = _; simp [mayG, hd]
        go_wp2
        go_ret
        exact ⟨by rw [HM.out]; first | rfl | (congr 2; simp; omega), hl⟩
    · refine (has_f s v 32 _ hu).mono ?_
      rintro e w2 ⟨rfl, hb⟩
      replace hl := bt hl hb
      replace hA := hA.later hb
      replace hr := hr.later hb
      replace hG := hG.later hb
      clear hb c0 c1 c2 c3 c4 c5 c6 c7 c8 c9 c10 c11 c12 c13 c14 c15
      obtain ⟨⟨c0, c1, c2, c3, c4, c5, c6, c7, c8, c9, c10, c11, c12, c13, c14, c15⟩, -, -⟩ := hA.sixteen
      by_cases ku : s.ur = 0
      · have ku1 : (s.ur == 0) = true := by simpa using ku
        have KU : Hid (s.ur = 0) := ku
        clear ku
        go_wp2_with (refine wpList_loadG 26 _ (by rfl) (by rfl) w.heap.size 7 (by rfl) _ _ hA.opts Tryd.underlying26 rfl size26 ?_)
        rcases (Bool.eq_false_or_eq_true s.o.may).symm with hm | hm
        · refine (ck_f _ hr hn hG hm).mono ?_
          rintro e w3 ⟨rfl, hb⟩
          replace hl := bt hl hb
          replace hA := hA.later hb
          replace hr := hr.later hb
          replace hG := hG.later hb
          clear hb c0 c1 c2 c3 c4 c5 c6 c7 c8 c9 c10 c11 c12 c13 c14 c15
          obtain ⟨⟨c0, c1, c2, c3, c4, c5, c6, c7, c8, c9, c10, c11, c12, c13, c14, c15⟩, -, -⟩ := hA.sixteen
          have HM : Hid (mayG s = false) := by show _ = _; simp [mayG, hm]
          go_wp2
          go_ret
          exact ⟨by rw [HM.out]; first | rfl | (congr 2; simp; omega), hl⟩
        refine (ck_t _ hr hn hG hm).mono ?_
        rintro e w3 ⟨rfl, hb⟩
        replace hl := bt hl hb
        replace hA := hA.later hb
        replace hr := hr.later hb
        replace hG := hG.later hb
        clear hb c0 c1 c2 c3 c4 c5 c6 c7 c8 c9 c10 c11 c12 c13 c14 c15
        obtain ⟨⟨c0, c1, c2, c3, c4, c5, c6, c7, c8, c9, c10, c11, c12, c13, c14, c15⟩, -, -⟩ := hA.sixteen
        by_cases hd : s.da.size ≤ 1480
        · have hd1 : (s.da.size : Int) ≤ 1480 := by omega
          have HM : Hid (mayG s = true) := by show _ = _; exact mayG_t h1 h2 h3 h4 h5 h6 h7 (.inl ha) (.inr KU.out) hm hd
          go_wp2
          go_ret
          exact ⟨by rw [HM.out]; first | rfl | (congr 2; simp; omega), hl⟩
        · have hd1 : ¬ (s.da.size : Int) ≤ 1480 := by omega
          have HM : Hid (mayG s = false) := by show _ = _; simp [mayG, hd]
          go_wp2
          go_ret
          exact ⟨by rw [HM.out]; first | rfl | (congr 2; simp; omega), hl⟩
      · have ku1 : (s.ur == 0) = false := by simpa using ku
        have HM : Hid (mayG s = false) := by show _ = _; simp [mayG, hu, ku]
        go_wp2
        go_ret
        exact ⟨by rw [HM.out]; first | rfl | (congr 2; simp; omega), hl⟩
  · refine (has_f s v 16 _ ha).mono ?_
    rintro e w1 ⟨rfl, hb⟩
    replace hl := bt hl hb
    replace hA := hA.later hb
    replace hr := hr.later hb
    replace hG := hG.later hb
    clear hb c0 c1 c2 c3 c4 c5 c6 c7 c8 c9 c10 c11 c12 c13 c14 c15
    obtain ⟨⟨c0, c1, c2, c3, c4, c5, c6, c7, c8, c9, c10, c11, c12, c13, c14, c15⟩, -, -⟩ := hA.sixteen
    by_cases ka : s.ak = 0
    · have ka1 : (s.ak == 0) = true := by simpa using ka
      have KA : Hid (s.ak = 0) := ka
      clear ka
      go_wp2_with (refine wpList_loadG 28 _ (by rfl) (by rfl) w.heap.size 0 (by rfl) _ _ hA.range Tryd.underlying28 rfl size28 ?_)
      rcases Bool.eq_false_or_eq_true (hasV s.fl 32) with hu | hu
      · refine (has_t s v 32 _ hu).mono ?_
        rintro e w2 ⟨rfl, hb⟩
        replace hl := bt hl hb
        replace hA := hA.later hb
        replace hr := hr.later hb
        replace hG := hG.later hb
        clear hb c0 c1 c2 c3 c4 c5 c6 c7 c8 c9 c10 c11 c12 c13 c14 c15
        obtain ⟨⟨c0, c1, c2, c3, c4, c5, c6, c7, c8, c9, c10, c11, c12, c13, c14, c15⟩, -, -⟩ := hA.sixteen
        go_wp2_with (refine wpList_loadG 26 _ (by rfl) (by rfl) w.heap.size 7 (by rfl) _ _ hA.opts Tryd.underlying26 rfl size26 ?_)
        rcases (Bool.eq_false_or_eq_true s.o.may).symm with hm | hm
        · refine (ck_f _ hr hn hG hm).mono ?_
          rintro e w3 ⟨rfl, hb⟩
          replace hl := bt hl hb
          replace hA := hA.later hb
          replace hr := hr.later hb
          replace hG := hG.later hb
          clear hb c0 c1 c2 c3 c4 c5 c6 c7 c8 c9 c10 c11 c12 c13 c14 c15
          obtain ⟨⟨c0, c1, c2, c3, c4, c5, c6, c7, c8, c9, c10, c11, c12, c13, c14, c15⟩, -, -⟩ := hA.sixteen
          have HM : Hid (mayG s = false) := by show _ = _; simp [mayG, hm]
          go_wp2
          go_ret
          exact ⟨by rw [HM.out]; first | rfl | (congr 2; simp; omega), hl⟩
        refine (ck_t _ hr hn hG hm).mono ?_
        rintro e w3 ⟨rfl, hb⟩
        replace hl := bt hl hb
        replace hA := hA.later hb
        replace hr := hr.later hb
        replace hG := hG.later hb
        clear hb c0 c1 c2 c3 c4 c5 c6 c7 c8 c9 c10 c11 c12 c13 c14 c15
        obtain ⟨⟨c0, c1, c2, c3, c4, c5, c6, c7, c8, c9, c10, c11, c12, c13, c14, c15⟩, -, -⟩ := hA.sixteen
        by_cases hd : s.da.size ≤ 1480
        · have hd1 : (s.da.size : Int) ≤ 1480 := by omega
          have HM : Hid (mayG s = true) := by show _ = _; exact mayG_t h1 h2 h3 h4 h5 h6 h7 (.inr KA.out) (.inl hu) hm hd
          go_wp2
          go_ret
          exact ⟨by rw [HM.out]; first | rfl | (congr 2; simp; omega), hl⟩
        · have hd1 : ¬ (s.da.size : Int) ≤ 1480 := by omega
          have HM : Hid (mayG s = false) := by show _ = _; simp [mayG, hd]
          go_wp2
          go_ret
          exact ⟨by rw [HM.out]; first | rfl | (congr 2; simp; omega), hl⟩
      · refine (has_f s v 32 _ hu).mono ?_
        rintro e w2 ⟨rfl, hb⟩
        replace hl := bt hl hb
        replace hA := hA.later hb
        replace hr := hr.later hb
        replace hG := hG.later hb
        clear hb c0 c1 c2 c3 c4 c5 c6 c7 c8 c9 c10 c11 c12 c13 c14 c15
        obtain ⟨⟨c0, c1, c2, c3, c4, c5, c6, c7, c8, c9, c10, c11, c12, c13, c14, c15⟩, -, -⟩ := hA.sixteen
        by_cases ku : s.ur = 0
        · have ku1 : (s.ur == 0) = true := by simpa using ku
          have KU : Hid (s.ur = 0) := ku
          clear ku
          go_wp2_with (refine wpList_loadG 26 _ (by rfl) (by rfl) w.heap.size 7 (by rfl) _ _ hA.opts Tryd.underlying26 rfl size26 ?_)
          rcases (Bool.eq_false_or_eq_true s.o.may).symm with hm | hm
          · refine (ck_f _ hr hn hG hm).mono ?_
            rintro e w3 ⟨rfl, hb⟩
            replace hl := bt hl hb
            replace hA := hA.later hb
            replace hr := hr.later hb
            replace hG := hG.later hb
            clear hb c0 c1 c2 c3 c4 c5 c6 c7 c8 c9 c10 c11 c12 c13 c14 c15
            obtain ⟨⟨c0, c1, c2, c3, c4, c5, c6, c7, c8, c9, c10, c11, c12, c13, c14, c15⟩, -, -⟩ := hA.sixteen
            have HM : Hid (mayG s = false) := by show _ = _; simp [mayG, hm]
            go_wp2
            go_ret
            exact ⟨by rw [HM.out]; first | rfl | (congr 2; simp; omega), hl⟩
          refine (ck_t _ hr hn hG hm).mono ?_
          rintro e w3 ⟨rfl, hb⟩
          replace hl := bt hl hb
          replace hA := hA.later hb
          replace hr := hr.later hb
          replace hG := hG.later hb
          clear hb c0 c1 c2 c3 c4 c5 c6 c7 c8 c9 c10 c11 c12 c13 c14 c15
          obtain ⟨⟨c0, c1, c2, c3, c4, c5, c6, c7, c8, c9, c10, c11, c12, c13, c14, c15⟩, -, -⟩ := hA.sixteen
          by_cases hd : s.da.size ≤ 1480
          · have hd1 : (s.da.size : Int) ≤ 1480 := by omega
            have HM : Hid (mayG s = true) := by show _ = _; exact mayG_t h1 h2 h3 h4 h5 h6 h7 (.inr KA.out) (.inr KU.out) hm hd
            go_wp2
            go_ret
            exact ⟨by rw [HM.out]; first | rfl | (congr 2; simp; omega), hl⟩
          · have hd1 : ¬ (s.da.size : Int) ≤ 1480 := by omega
            have HM : Hid (mayG s = false) := by show _ = _; simp [mayG, hd]
            go_wp2
            go_ret
            exact ⟨by rw [HM.out]; first | rfl | (congr 2; simp; omega), hl⟩
        · have ku1 : (s.ur == 0) = false := by simpa using ku
          have HM : Hid (mayG s = false) := by show _ = _; simp [mayG, hu, ku]
          go_wp2
          go_ret
          exact ⟨by rw [HM.out]; first | rfl | (congr 2; simp; omega), hl⟩
    · have ka1 : (s.ak == 0) = false := by simpa using ka
      have HM : Hid (mayG s = false) := by show _ = _; simp [mayG, ha, ka]
      go_wp2
      go_ret
      exact ⟨by rw [HM.out]; first | rfl | (congr 2; simp; omega), hl⟩
theorem chk_s (s : Sg) (v : Value) (w : World) (hv : Rgs w v s.o.rs) (hn : s.o.rs.length ≤ 17592186044416) (hG : Ord w) :
    Calls Tryd.prog 11 #[.agg #[.int .i64 s.fr, .int .i64 s.dt, .int .i64 s.sq, .int .i64 s.ak, .int .i64 s.fl, .int .i64 s.wi, .int .i64 s.ur, .int .i64 s.o.m, .int .i64 s.o.c, .int .i64 s.o.t, .int .i64 s.o.ec, .bool s.o.sd, .bool s.o.ok, .bool s.o.sp, v, .string s.da]] w fun e w' => e = .returned (.int .i64 (codeG (mayG s))) ∧ Below w.heap.size w w' := by
  have hA := At.box w #[.int .i64 s.fr, .int .i64 s.dt, .int .i64 s.sq, .int .i64 s.ak, .int .i64 s.fl, .int .i64 s.wi, .int .i64 s.ur, .int .i64 s.o.m, .int .i64 s.o.c, .int .i64 s.o.t, .int .i64 s.o.ec, .bool s.o.sd, .bool s.o.ok, .bool s.o.sp, v, .string s.da] 28
  have hl := bel1 w (.cells #[.int .i64 s.fr, .int .i64 s.dt, .int .i64 s.sq, .int .i64 s.ak, .int .i64 s.fl, .int .i64 s.wi, .int .i64 s.ur, .int .i64 s.o.m, .int .i64 s.o.c, .int .i64 s.o.t, .int .i64 s.o.ec, .bool s.o.sd, .bool s.o.ok, .bool s.o.sp, v, .string s.da] 28)
  have hm := may_s s v _ (hv.later hl) hn (hG.later hl)
  rcases Bool.eq_false_or_eq_true (mayG s) with h | h
  all_goals
    rw [h] at hm ⊢
    go_enter Tryd.func11, Tryd.ntmps11
    go_wp2_with (refine wpList_loadG 28 _ (by rfl) (by rfl) w.heap.size 0 (by rfl) _ _ hA.range Tryd.underlying28 rfl size28 ?_)
    refine hm.mono ?_
    rintro e w' ⟨rfl, hb⟩
    go_wp2
    go_ret
    exact ⟨rfl, bt hl hb⟩
end Go.Proofs.YtecoknenkjgmjabDoor
