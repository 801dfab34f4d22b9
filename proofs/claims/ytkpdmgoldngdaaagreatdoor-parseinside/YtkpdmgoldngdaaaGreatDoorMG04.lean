/- the texts Rf, in part, merged by program -/
import Derived.Test.YtkpdmgoldngdaaaGreatDoorProg
import Derived.Test.YtkpdmgoldngdaaaGreatDoorRows
import Derived.Deep.Cut
import Derived.Deep.CutRange
import Derived.Deep.QuietTactic
import Derived.BigQuiet
import Derived.WalkSmall
import Derived.WalkKit
import Derived.WalkSpells
import Derived.RegionTactic
import Derived.Below
import Derived.Laws.Tables
import Derived.Great.BuildSlice
import Derived.Laws.OwnMore
import Derived.Laws.AppendOwn
import Derived.Laws.AppendOwnNone
import Derived.Deep.LoopGhost
import Derived.Deep.RegionHeld3
import Derived.Laws.StructEq
import Derived.BigRegion
import Derived.Deep.Light
import Derived.Shelf.Strings.Repeat
import Derived.Test.YtkpdmgoldngdaaaGreatDoorMA01
import Derived.Test.YtkpdmgoldngdaaaGreatDoorMA04
import Derived.Test.YtkpdmgoldngdaaaGreatDoorMD01
import Derived.Test.YtkpdmgoldngdaaaGreatDoorMD02
import Derived.Test.YtkpdmgoldngdaaaGreatDoorMD03
import Derived.Test.YtkpdmgoldngdaaaGreatDoorMG01
import Derived.Test.YtkpdmgoldngdaaaGreatDoorMG03
namespace Go.Proofs.YtkpdmgoldngdaaaGreatDoor
open Go.RowKit
set_option maxRecDepth 100000
set_option linter.unusedVariables false
theorem rpart_any (o : Op) (v : Value) (kind : Int) (b : ByteArray) (B : Nat) (w : World) (hP : At w (B + 1) (OV o v)) (hQ : At w (B + 2) (seenA o)) (hown : w.ownsRow (B + 3) 148 2 v o.rs.length (flatR o.rs)) (hnil : o.rs = [] → v = .slice none 0 0) (hs : b.size ≤ 38) (hB3 : B + 3 ≤ w.heap.size) :
    Calls Tryz.prog 121 #[.pointer (some ⟨B + 1, 0, none⟩), .int .i64 kind, .string b, .slice (some ⟨B + 2, 0, none⟩) 9 9] w fun en w' => PartPost (stepO o kind b.data.toList) B w en w' := by
  obtain ⟨m, c, t, ec, sd, ok, sp, rs⟩ := o
  by_cases h2 : kind = 2
  · subst h2; exact rp_2 m c t ec sd ok sp v rs B w hP hQ hown hnil b hs
  by_cases h3 : kind = 3
  · subst h3; exact rp_3 m c t ec sd ok sp v rs B w hP hQ hown hnil b hs
  by_cases h4 : kind = 4
  · subst h4; exact rp_4 m c t ec sd ok sp v rs B w hP hQ hown hnil b hs
  by_cases h8 : kind = 8
  · subst h8; exact rp_8 m c t ec sd ok sp v rs B w hP hQ hown hnil b hs
  by_cases h5 : kind = 5
  · subst h5; exact rp_5 m c t ec sd ok sp v rs B w hP hQ hown hnil b hs hB3
  have hst : stepO ⟨m, c, t, ec, sd, ok, sp, rs⟩ kind b.data.toList = some ⟨m, c, t, ec, sd, ok, sp, rs⟩ := by simp [stepO, followsB, saysB, takeO, h2, h3, h4, h5, h8]
  rw [hst]
  exact rp_x m c t ec sd ok sp v rs B w hP hQ hown hnil b hs kind h2 h3 h4 h8 h5
theorem step_len {o o2 : Op} {k : Int} {b : List UInt8} (h : stepO o k b = some o2) (h1 : o.rs.length ≤ 40) (h2 : b.length ≤ 40) : o2.rs.length ≤ 40 := by
  unfold stepO at h
  split at h
  · obtain rfl := Option.some.inj h
    unfold takeO
    split
    · simp only [pairsL, List.length_map, List.length_range]; omega
    · split
      · exact h1
      · split
        · exact h1
        · split
          · exact h1
          · split
            · exact h1
            · exact h1
  · cases h
theorem At.of_own {w : World} {base g n cap : Nat} {e : TypeId} {vs : Array Value} (h : w.ownsRow base e 1 (.slice (some ⟨g, 0, none⟩) n cap) n vs.toList) : At w g vs := by
  have hl : vs.size = n := by have := h.1; simpa using this
  refine ⟨(h.lt g rfl).2, fun i v hi => ⟨?_, h.frozenAt i⟩⟩
  have hin : i < n := by rw [← hl]; exact (Array.getElem?_eq_some_iff.1 hi).1
  rw [h.cellAt i (by omega)]
  simpa using hi
theorem Tryz.info4 : (Tryz.prog.info? 4).map (fun i => (i.zero, i.size, i.bytes)) = some (some (.bool false), 1, 1) := by kernel_rfl
theorem irun_byte (s : ByteArray) (i : Nat) (x : Int) (h : i < s.size) (hx : (s[i].toNat : Int) = x) : ∀ W, (Instr.index 9 (.string s) (.int .i64 (i : Int))).run Tryz.prog W = .ok (.int .u8 x) W := fun W => by
  rw [run_index_string W 9 s .i64 i Tryz.underlying9, dif_pos ⟨by omega, by omega⟩, ← hx]; rfl
theorem ext_ext (s : ByteArray) (i a b : Nat) (h : i + b ≤ s.size) : (s.extract i s.size).extract a b = s.extract (i + a) (i + b) := by
  rw [ByteArray.extract_extract]
  congr 1
  omega
theorem head_at (s : ByteArray) (i : Nat) (h : i < s.size) : (s[i].toNat : Int) = (headN (s.extract i s.size) : Int) := by
  unfold headN
  rw [ext_list s i s.size (Nat.le_refl _), List.getD_eq_getElem?_getD, List.getElem?_take, if_pos (by omega), List.getElem?_drop, Nat.add_zero, List.getElem?_eq_getElem (by rw [toList_size]; exact h)]
  rfl
theorem first_at (s : ByteArray) (i : Nat) (h : i + 1 < s.size) : (s[i + 1].toNat : Int) = (firstN (s.extract i s.size) : Int) := by
  unfold firstN
  rw [ext_list s i s.size (Nat.le_refl _), List.getD_eq_getElem?_getD, List.getElem?_take, if_pos (by omega), List.getElem?_drop, List.getElem?_eq_getElem (by rw [toList_size]; exact h)]
  rfl
set_option maxRecDepth 100000 in
set_option maxHeartbeats 8000000 in
theorem rdec_any (s : ByteArray) (w : World) (hs : s.size ≤ 1125899906842624) : Calls Tryz.prog 77 #[.string s] w fun en w' => DecPost (decO s.data.toList) w en w' := by
  have hb1 := bel1 w (.cells #[.int .i64 0, .int .i64 0, .int .i64 0, .int .i64 0, .bool false, .bool false, .bool false, .slice none 0 0] 32)
  have hR := At.box w #[.int .i64 0, .int .i64 0, .int .i64 0, .int .i64 0, .bool false, .bool false, .bool false, .slice none 0 0] 32
  by_cases h40 : 40 < s.size
  · have HDEC : Hid (decO s.data.toList = none) := by show _ = _; unfold decO; rw [if_pos (by rw [toList_size]; exact h40)]
    have h40' : (40 : Int) < (s.size : Int) := by omega
    clear h40 hb1 hR
    -- A
    go_enter Tryz.func77, Tryz.ntmps77
    go_wp2
    exact bodyPost_ret (v := .tuple #[.agg #[.int .i64 0, .int .i64 0, .int .i64 0, .int .i64 0, .bool false, .bool false, .bool false, .slice none 0 0], .int .i64 70]) (by simp [results, Tryz.results77, go_sem]) rfl (by rw [HDEC.out]; exact ⟨rfl, bel1 _ _⟩)
    -- /A
  have h40' : ¬ (40 : Int) < (s.size : Int) := by omega
  have h40n : s.size ≤ 40 := by omega
  have HD0 := decO_s s h40n
  obtain ⟨RN, hRN⟩ : ∃ r, r = runS s Op.zero := ⟨_, rfl⟩
  rw [← hRN] at HD0
  have HDO : Hid (decO s.data.toList = okO RN) := HD0
  have HRN : Hid (runS (s.extract 0 s.size) Op.zero = RN) := by show _ = _; rw [show s.extract 0 s.size = s by apply ba_toList; rw [ext_list s 0 s.size (Nat.le_refl _), List.drop_zero, Nat.sub_zero, take_all], hRN]
  clear hRN HD0
  obtain ⟨i0, hi, hz0, hz1, hz2⟩ := info_parts Tryz.info4
  have hb2 := bel1 (w.alloc (.cells #[.int .i64 0, .int .i64 0, .int .i64 0, .int .i64 0, .bool false, .bool false, .bool false, .slice none 0 0] 32)) (.cells #[.int .i64 0, .int .i64 0, .int .i64 0, .int .i64 0, .bool false, .bool false, .bool false, .slice none 0 0] 32)
  have hA := At.box2 w (.cells #[.int .i64 0, .int .i64 0, .int .i64 0, .int .i64 0, .bool false, .bool false, .bool false, .slice none 0 0] 32) #[.int .i64 0, .int .i64 0, .int .i64 0, .int .i64 0, .bool false, .bool false, .bool false, .slice none 0 0] 32
  replace hR := hR.later hb2
  have hl := bt hb1 hb2
  go_enter Tryz.func77, Tryz.ntmps77
  go_wp2_with (at_make; refine wpList_make_full _ rfl _ _ 168 rfl (w.heap.size + 2) 4 i0 (.bool false) 1 Tryz.underlying168 hi hz0 hz1 .i64 .i64 _ _ 9 rfl rfl rfl rfl (by rw [hz2]; omega) (by unfold maxLen; omega) (by simp) ?_)
  intro w1 hown hgrow
  have hsz : w.heap.size + 3 ≤ w1.heap.size := by
    have := (hown.lt (w.heap.size + 2) (by simp [Value.ownBlock])).2
    omega
  have hbg : Below (w.heap.size + 2) ((w.alloc (.cells #[.int .i64 0, .int .i64 0, .int .i64 0, .int .i64 0, .bool false, .bool false, .bool false, .slice none 0 0] 32)).alloc (.cells #[.int .i64 0, .int .i64 0, .int .i64 0, .int .i64 0, .bool false, .bool false, .bool false, .slice none 0 0] 32)) w1 := (Below.refl _ _).grown hgrow (by simp) (fun k e => by cases e)
  have hQ : At w1 (w.heap.size + 2) (seenA Op.zero) := by
    have e := toList_madeCells_one (.bool false) (9 * 1)
    rw [e] at hown
    simp at hown
    exact At.of_own (vs := seenA Op.zero) hown
  have HST : Hid (Below w.heap.size w w1 ∧ w.heap.size + 3 ≤ w1.heap.size ∧ At w1 w.heap.size #[.int .i64 0, .int .i64 0, .int .i64 0, .int .i64 0, .bool false, .bool false, .bool false, .slice none 0 0] ∧ At w1 (w.heap.size + 1) (OV Op.zero (.slice none 0 0)) ∧ At w1 (w.heap.size + 2) (seenA Op.zero)) := ⟨hl.trans (hbg.mono (by omega)), hsz, hR.below hbg (by omega), hA.below hbg (by omega), hQ⟩
  clear hown hgrow hi hz0 hz1 hz2 hb1 hb2 hA hR hl hsz hbg hQ h40'
  go_upto_region 5 with fail
  go_cut [6] from 8 (fun s W => s = .int .i64 0 ∧ W = w1)
  case first =>
    clear HST HDO HRN
    go_wp2
    go_meet
    case rel => exact ⟨rfl, rfl⟩
  case rest =>
  obtain ⟨rfl, rfl⟩ := hcut
  go_wp2_with fail
  go_loopw [6] (fun q W => ∃ (i : Nat) (o : Op) (v : Value), i ≤ s.size ∧ q = .int .i64 (i : Int) ∧ runS (s.extract i s.size) o = RN ∧ Below w.heap.size w W ∧ w.heap.size + 3 ≤ W.heap.size ∧ At W w.heap.size #[.int .i64 0, .int .i64 0, .int .i64 0, .int .i64 0, .bool false, .bool false, .bool false, .slice none 0 0] ∧ At W (w.heap.size + 1) (OV o v) ∧ At W (w.heap.size + 2) (seenA o) ∧ W.ownsRow (w.heap.size + 3) 148 2 v o.rs.length (flatR o.rs) ∧ (o.rs = [] → v = .slice none 0 0) ∧ o.rs.length ≤ 40) (fun q _ => s.size - (intOf q).toNat)
  case atStart => exact ⟨0, Op.zero, .slice none 0 0, Nat.zero_le _, rfl, HRN.out, HST.out.1, HST.out.2.1, HST.out.2.2.1, HST.out.2.2.2.1, HST.out.2.2.2.2, World.ownsRow_nil _ _ _ _, fun _ => rfl, Nat.zero_le _⟩
  case round =>
    clear HST HRN
    obtain ⟨i, o, v, hi, rfl, hrun, hbl, hsz, hR, hA, hQ, hown, hnil, hr40⟩ := hrel
    have HR : Hid (At wr w.heap.size #[.int .i64 0, .int .i64 0, .int .i64 0, .int .i64 0, .bool false, .bool false, .bool false, .slice none 0 0]) := hR
    have HRR : Hid (At wr w.heap.size #[.int .i64 0, .int .i64 0, .int .i64 0, .int .i64 0, .bool false, .bool false, .bool false, .slice none 0 0]) := hR
    have HA : Hid (At wr (w.heap.size + 1) #[.int .i64 o.m, .int .i64 o.c, .int .i64 o.t, .int .i64 o.ec, .bool o.sd, .bool o.ok, .bool o.sp, v]) := hA
    have HAO : Hid (At wr (w.heap.size + 1) (OV o v)) := hA
    have HQ : Hid (At wr (w.heap.size + 2) (seenA o)) := hQ
    have HOWN : Hid (wr.ownsRow (w.heap.size + 3) 148 2 v o.rs.length (flatR o.rs)) := hown
    have HNIL : Hid (o.rs = [] → v = .slice none 0 0) := hnil
    have HRUN : Hid (runS (s.extract i s.size) o = RN) := hrun
    have hxs : (s.extract i s.size).size = s.size - i := by rw [ByteArray.size_extract]; omega
    obtain ⟨va, vcap, hvv, -, -⟩ := own_slice hown
    subst hvv
    clear hR hA hQ hown hnil hrun
    by_cases hend : i = s.size
    · have HRS : Hid (RN = some o) := by show _ = _; rw [← HRUN.out]; exact run_nil _ _ (by omega)
      have t1 : ¬ (i : Int) < (s.size : Int) := by omega
      clear HRUN
      -- B
      have hc := rcheck_o o.m o.c o.t o.ec o.sd o.ok o.sp (.slice va o.rs.length vcap) o.rs wr (Rgs.of_own HOWN.out) (by have := hr40; omega)
      have HCK : Hid (Calls Tryz.prog 122 #[.agg #[.int .i64 o.m, .int .i64 o.c, .int .i64 o.t, .int .i64 o.ec, .bool o.sd, .bool o.ok, .bool o.sp, (.slice va o.rs.length vcap)]] wr fun e w' => e = .returned (.int .i64 (codeO o.may)) ∧ Below wr.heap.size wr w') := hc
      clear hc
      obtain ⟨⟨c0, c1, c2, c3, c4, c5, c6, c7⟩, -, -⟩ := HA.out.eight
      go_wp2_with fail
      refine HCK.out.mono ?_
      rintro en w5 ⟨rfl, hb5⟩
      clear c0 c1 c2 c3 c4 c5 c6 c7
      rcases Bool.eq_false_or_eq_true o.may with hmay | hmay
      · rw [hmay, codeO_t]
        have HDEC : Hid (decO s.data.toList = some o) := by show _ = _; rw [HDO.out, HRS.out]; show (if o.may = true then some o else none) = some o; rw [if_pos hmay]
        obtain ⟨⟨c0, c1, c2, c3, c4, c5, c6, c7⟩, -, -⟩ := (HA.out.later hb5).eight
        obtain ⟨⟨r0, r1, r2, r3, r4, r5, r6, r7⟩, ⟨g0, g1, g2, g3, g4, g5, g6, g7⟩, -⟩ := (HR.out.later hb5).eight
        have hbl5 := hbl.trans (hb5.mono (by omega))
        go_wp2
        exact bodyPost_ret (v := .tuple #[.agg #[.int .i64 o.m, .int .i64 o.c, .int .i64 o.t, .int .i64 o.ec, .bool o.sd, .bool o.ok, .bool o.sp, (.slice va o.rs.length vcap)], .int .i64 0]) (by simp [results, Tryz.results77, go_sem, r0, r1, r2, r3, r4, r5, r6, r7]) rfl (by rw [HDEC.out]; exact ⟨_, rfl, own_mono (own_set8 (own_later HOWN.out hb5) w.heap.size (by omega) _ _ _ _ _ _ _ _) (by omega), below8 hbl5 (Nat.le_refl _) _ _ _ _ _ _ _ _⟩)
      · rw [hmay, codeO_f]
        have HDEC : Hid (decO s.data.toList = none) := by show _ = _; rw [HDO.out, HRS.out]; show (if o.may = true then some o else none) = none; rw [if_neg (by rw [hmay]; decide)]
        have hbl5 := hbl.trans (hb5.mono (by omega))
        obtain ⟨⟨r0, r1, r2, r3, r4, r5, r6, r7⟩, ⟨g0, g1, g2, g3, g4, g5, g6, g7⟩, -⟩ := (HR.out.later hb5).eight
        go_wp2
        exact bodyPost_ret (v := .tuple #[.agg #[.int .i64 0, .int .i64 0, .int .i64 0, .int .i64 0, .bool false, .bool false, .bool false, .slice none 0 0], .int .i64 70]) (by simp [results, Tryz.results77, go_sem, r0, r1, r2, r3, r4, r5, r6, r7]) rfl (by rw [HDEC.out]; exact ⟨rfl, below8 hbl5 (Nat.le_refl _) _ _ _ _ _ _ _ _⟩)
      -- /B
    have hilt : i < s.size := by omega
    have t1 : (i : Int) < (s.size : Int) := by omega
    have t0 : (0 : Int) ≤ (i : Int) := by omega
    have hk := head_at s i hilt
    have hle := headN_le (s.extract i s.size)
    have H0 := run_zero (s.extract i s.size) o (by omega)
    have H1 := run_one (s.extract i s.size) o (by omega)
    have HM := run_more (s.extract i s.size) o (by omega)
    obtain ⟨K0, hK0⟩ : ∃ q, q = headN (s.extract i s.size) := ⟨_, rfl⟩
    rw [← hK0] at hk hle H0 H1 HM
    have hix := irun_byte s i (K0 : Int) hilt hk
    have HIX : Hid (∀ W, (Instr.index 9 (.string s) (.int .i64 (i : Int))).run Tryz.prog W = .ok (.int .u8 (K0 : Int)) W) := hix
    have hle' : (K0 : Int) ≤ 255 := by omega
    clear hK0
    by_cases k0 : K0 = 0
    · subst k0
      have HRS : Hid (RN = some o) := by show _ = _; rw [← HRUN.out]; exact H0 rfl
      clear HRUN H0 H1 HM
      have hk' : (s[i].toNat : Int) = 0 := hk
      -- C
      have hc := rcheck_o o.m o.c o.t o.ec o.sd o.ok o.sp (.slice va o.rs.length vcap) o.rs wr (Rgs.of_own HOWN.out) (by have := hr40; omega)
      have HCK : Hid (Calls Tryz.prog 122 #[.agg #[.int .i64 o.m, .int .i64 o.c, .int .i64 o.t, .int .i64 o.ec, .bool o.sd, .bool o.ok, .bool o.sp, (.slice va o.rs.length vcap)]] wr fun e w' => e = .returned (.int .i64 (codeO o.may)) ∧ Below wr.heap.size wr w') := hc
      clear hc
      obtain ⟨⟨c0, c1, c2, c3, c4, c5, c6, c7⟩, -, -⟩ := HA.out.eight
      go_wp2_with fail
      refine HCK.out.mono ?_
      rintro en w5 ⟨rfl, hb5⟩
      clear c0 c1 c2 c3 c4 c5 c6 c7
      rcases Bool.eq_false_or_eq_true o.may with hmay | hmay
      · rw [hmay, codeO_t]
        have HDEC : Hid (decO s.data.toList = some o) := by show _ = _; rw [HDO.out, HRS.out]; show (if o.may = true then some o else none) = some o; rw [if_pos hmay]
        obtain ⟨⟨c0, c1, c2, c3, c4, c5, c6, c7⟩, -, -⟩ := (HA.out.later hb5).eight
        obtain ⟨⟨r0, r1, r2, r3, r4, r5, r6, r7⟩, ⟨g0, g1, g2, g3, g4, g5, g6, g7⟩, -⟩ := (HR.out.later hb5).eight
        have hbl5 := hbl.trans (hb5.mono (by omega))
        go_wp2
        exact bodyPost_ret (v := .tuple #[.agg #[.int .i64 o.m, .int .i64 o.c, .int .i64 o.t, .int .i64 o.ec, .bool o.sd, .bool o.ok, .bool o.sp, (.slice va o.rs.length vcap)], .int .i64 0]) (by simp [results, Tryz.results77, go_sem, r0, r1, r2, r3, r4, r5, r6, r7]) rfl (by rw [HDEC.out]; exact ⟨_, rfl, own_mono (own_set8 (own_later HOWN.out hb5) w.heap.size (by omega) _ _ _ _ _ _ _ _) (by omega), below8 hbl5 (Nat.le_refl _) _ _ _ _ _ _ _ _⟩)
      · rw [hmay, codeO_f]
        have HDEC : Hid (decO s.data.toList = none) := by show _ = _; rw [HDO.out, HRS.out]; show (if o.may = true then some o else none) = none; rw [if_neg (by rw [hmay]; decide)]
        have hbl5 := hbl.trans (hb5.mono (by omega))
        obtain ⟨⟨r0, r1, r2, r3, r4, r5, r6, r7⟩, ⟨g0, g1, g2, g3, g4, g5, g6, g7⟩, -⟩ := (HR.out.later hb5).eight
        go_wp2
        exact bodyPost_ret (v := .tuple #[.agg #[.int .i64 0, .int .i64 0, .int .i64 0, .int .i64 0, .bool false, .bool false, .bool false, .slice none 0 0], .int .i64 70]) (by simp [results, Tryz.results77, go_sem, r0, r1, r2, r3, r4, r5, r6, r7]) rfl (by rw [HDEC.out]; exact ⟨rfl, below8 hbl5 (Nat.le_refl _) _ _ _ _ _ _ _ _⟩)
      -- /C
    by_cases k1 : K0 = 1
    · subst k1
      have HE : Hid (runS (s.extract (i + 1) s.size) o = RN) := by
        show _ = _
        rw [← HRUN.out, H1 rfl, hxs, show (s.extract i s.size).extract 1 (s.size - i) = s.extract (i + 1) s.size by rw [ext_ext s i 1 (s.size - i) (by omega), show i + (s.size - i) = s.size by omega]]
      clear HRUN H0 H1 HM k0
      have hk' : (s[i].toNat : Int) = 1 := hk
      -- D
      go_wp2
      go_roundw
      case rel => exact ⟨i + 1, o, _, by omega, by go_num, HE.out, hbl, hsz, HR.out, HAO.out, HQ.out, HOWN.out, HNIL.out, hr40⟩
      case measure => simp [intOf]; omega
      -- /D
    have HRM := HM k0 k1
    have k0' : ¬ (K0 : Int) = 0 := by omega
    have k1' : ¬ (K0 : Int) = 1 := by omega
    clear H0 H1 HM
    by_cases h1 : s.size ≤ i + 1
    · have HRNn : Hid (RN = none) := by
        show _ = _
        rw [← HRUN.out, HRM, if_neg (by unfold firstB; simp; omega)]
      have t2 : (s.size : Int) ≤ (i : Int) + 1 := by omega
      clear HRM HRUN
      have HDEC : Hid (decO s.data.toList = none) := by show _ = _; rw [HDO.out, HRNn.out]; rfl
      -- E
      obtain ⟨⟨r0, r1, r2, r3, r4, r5, r6, r7⟩, ⟨g0, g1, g2, g3, g4, g5, g6, g7⟩, -⟩ := HR.out.eight
      go_wp2
      exact bodyPost_ret (v := .tuple #[.agg #[.int .i64 0, .int .i64 0, .int .i64 0, .int .i64 0, .bool false, .bool false, .bool false, .slice none 0 0], .int .i64 70]) (by simp [results, Tryz.results77, go_sem, r0, r1, r2, r3, r4, r5, r6, r7]) rfl (by rw [HDEC.out]; exact ⟨rfl, below8 hbl (Nat.le_refl _) _ _ _ _ _ _ _ _⟩)
      -- /E
    have h1' : i + 1 < s.size := by omega
    have t2 : ¬ (s.size : Int) ≤ (i : Int) + 1 := by omega
    have hfa := first_at s i h1'
    obtain ⟨fn, hfn⟩ : ∃ q, q = firstN (s.extract i s.size) := ⟨_, rfl⟩
    rw [← hfn] at hfa HRM
    have hfb : firstB (s.extract i s.size) = decide (2 ≤ fn ∧ fn ≤ s.size - i) := by
      unfold firstB
      have : (((s.extract i s.size).data.toList.getD 1 0).toNat) = fn := hfn.symm
      rw [this, hxs]
      congr 1
      simp only [eq_iff_iff]
      omega
    have hfl : fn ≤ 255 := by rw [hfn]; unfold firstN; have := ((s.extract i s.size).data.toList.getD 1 0).toNat_lt; omega
    rw [hfb] at HRM
    have hix1 := irun_byte s (i + 1) (fn : Int) h1' hfa
    have hfl' : (fn : Int) ≤ 255 := by omega
    clear hfn hfb
    have ti : ((i + 1 : Nat) : Int) = (i : Int) + 1 := by omega
    rw [ti] at hix1
    go_upto_region 11 with fail
    go_cut [7] from 13 to 69 (fun q W => q = .int .i64 (fn : Int) ∧ W = wr)
    case first =>
      clear HR HA HAO HQ HOWN HNIL HRUN HRM HDO HIX
      go_wp2
      go_meet
      case rel => exact ⟨by first | rfl | (congr 1), rfl⟩
    case rest =>
    obtain ⟨rfl, rfl⟩ := hcut
    have hway : fn < 2 ∨ (2 ≤ fn ∧ ¬ fn ≤ s.size - i) ∨ (2 ≤ fn ∧ fn ≤ s.size - i) := by omega
    rcases hway with hlt2 | ⟨hge2, hgt⟩ | ⟨hge2, hle2⟩
    · have HDEC : Hid (decO s.data.toList = none) := by show _ = _; rw [HDO.out, ← HRUN.out, HRM, if_neg (by simp; omega)]; rfl
      have t3 : (fn : Int) < 2 := by omega
      clear HRM HRUN HIX hix hix1 hk hfa
      -- G
      go_wp2
      go_quiet (fail)
      have hdq := below_drewN (Below.refl wc.heap.size wc) nq
      obtain ⟨⟨r0, r1, r2, r3, r4, r5, r6, r7⟩, ⟨g0, g1, g2, g3, g4, g5, g6, g7⟩, -⟩ := (HR.out.later hdq).eight
      have hbl5 := hbl.trans (hdq.mono (by omega))
      go_wp2
      exact bodyPost_ret (v := .tuple #[.agg #[.int .i64 0, .int .i64 0, .int .i64 0, .int .i64 0, .bool false, .bool false, .bool false, .slice none 0 0], .int .i64 70]) (by simp [results, Tryz.results77, go_sem, r0, r1, r2, r3, r4, r5, r6, r7]) rfl (by rw [HDEC.out]; exact ⟨rfl, below8 hbl5 (Nat.le_refl _) _ _ _ _ _ _ _ _⟩)
      -- /G
    · have HDEC : Hid (decO s.data.toList = none) := by show _ = _; rw [HDO.out, ← HRUN.out, HRM, if_neg (by simp; omega)]; rfl
      have t3 : ¬ (fn : Int) < 2 := by omega
      have t4 : (s.size : Int) - (i : Int) < (fn : Int) := by omega
      have hw1 : IntKind.i64.wrap ((s.size : Int) - (i : Int)) = (s.size : Int) - (i : Int) := by rw [IntKind.wrap_i64]; omega
      clear HRM HRUN HIX hix hix1 hk hfa
      -- H
      go_wp2
      refine wp_region_any (by kernel_rfl) ?_
      refine region_facts (fun W => Below wc.heap.size wc W) (GE (fun qq => match qq with | 0 => .int .i64 (fn : Int) | 1 => .bool false | 2 => .bool false | 3 => .int .i64 (fn : Int) | 4 => .string s | 5 => .int .i64 (s.size : Int) | 6 => .int .i64 (i : Int) | 7 => .int .i64 ((s.size : Int) - (i : Int)) | 8 => .bool true | 9 => .bool true | 10 => .bool true | 25 => .bool true | _ => undef) (fun _ => none)) (n := 75) (by kernel_rfl) rfl (by kernel_rfl) (GE_later _ _ (fun _ _ h => by cases h)) ?_ ?_ ((Below.refl _ _).drew) (Nat.le_refl _)
      · clear HDEC HDO HQ HOWN HNIL HA HAO HR HRR
        refine ⟨?_, ?_, ?_, ?_, ?_, ?_, ?_, ?_, ?_, ?_, ?_, ?_, ?_, ?_, ?_, ?_, ?_, ?_, ?_, ?_, ?_, ?_, ?_, ?_, ?_, ?_, trivial⟩
        · intro ac w1 hS hT hB hD K hK
          rw [if_pos (by rfl)]
          have d7 : ac.tmps.getD 7 undef = .int .i64 (fn : Int) := hB 7 (by kernel_rfl)
          clear hB hD hT
          go_simp
          exact hK _ _ hS (Below.refl _ _) rfl
        · intro ac w1 hS hT hB hD K hK
          rw [if_pos (by rfl)]
          have d40 : ac.tmps.getD 40 undef = .int .i64 (fn : Int) := hD ⟨0, .data⟩ (by simp) rfl _ 40 rfl rfl
          clear hB hD hT
          have t2 : ¬ (fn : Int) < 2 := by omega
          go_simp
          exact hK _ _ hS (Below.refl _ _) rfl
        · intro ac w1 hS hT hB hD K hK
          rw [if_pos (by rfl)]
          have d41 : ac.tmps.getD 41 undef = .bool false := hD ⟨1, .data⟩ (by simp) rfl _ 41 rfl rfl
          clear hB hD hT
          go_simp
          exact hK _ _ hS (Below.refl _ _) rfl
        · intro ac w1 hS hT hB hD K hK
          have g42 : ac.tmps.getD 42 undef = .bool false := hD ⟨2, .guard⟩ (by simp) rfl _ 42 rfl rfl
          rw [if_pos (want_t (j := 2) (d := 42) rfl rfl g42)]
          clear g42
          have d7 : ac.tmps.getD 7 undef = .int .i64 (fn : Int) := hB 7 (by kernel_rfl)
          clear hB hD hT
          go_simp
          exact hK _ _ hS (Below.refl _ _) rfl
        · intro ac w1 hS hT hB hD K hK
          have g42 : ac.tmps.getD 42 undef = .bool false := hD ⟨2, .guard⟩ (by simp) rfl _ 42 rfl rfl
          rw [if_pos (want_t (j := 2) (d := 42) rfl rfl g42)]
          clear g42
          have d0 : ac.tmps.getD 0 undef = .string s := hB 0 (by kernel_rfl)
          clear hB hD hT
          go_simp
          exact hK _ _ hS (Below.refl _ _) rfl
        · intro ac w1 hS hT hB hD K hK
          have g42 : ac.tmps.getD 42 undef = .bool false := hD ⟨2, .guard⟩ (by simp) rfl _ 42 rfl rfl
          rw [if_pos (want_t (j := 2) (d := 42) rfl rfl g42)]
          clear g42
          have d44 : ac.tmps.getD 44 undef = .string s := hD ⟨4, .data⟩ (by simp) rfl _ 44 rfl rfl
          clear hB hD hT
          go_simp
          exact hK _ _ hS (Below.refl _ _) rfl
        · intro ac w1 hS hT hB hD K hK
          have g42 : ac.tmps.getD 42 undef = .bool false := hD ⟨2, .guard⟩ (by simp) rfl _ 42 rfl rfl
          rw [if_pos (want_t (j := 2) (d := 42) rfl rfl g42)]
          clear g42
          have d6 : ac.tmps.getD 6 undef = .int .i64 (i : Int) := hB 6 (by kernel_rfl)
          clear hB hD hT
          go_simp
          exact hK _ _ hS (Below.refl _ _) rfl
        · intro ac w1 hS hT hB hD K hK
          have g42 : ac.tmps.getD 42 undef = .bool false := hD ⟨2, .guard⟩ (by simp) rfl _ 42 rfl rfl
          rw [if_pos (want_t (j := 2) (d := 42) rfl rfl g42)]
          clear g42
          have d45 : ac.tmps.getD 45 undef = .int .i64 (s.size : Int) := hD ⟨5, .data⟩ (by simp) rfl _ 45 rfl rfl
          have d46 : ac.tmps.getD 46 undef = .int .i64 (i : Int) := hD ⟨6, .data⟩ (by simp) rfl _ 46 rfl rfl
          clear hB hD hT
          have hw1 : IntKind.i64.wrap ((s.size : Int) - (i : Int)) = (s.size : Int) - (i : Int) := by rw [IntKind.wrap_i64]; omega
          go_simp
          exact hK _ _ hS (Below.refl _ _) rfl
        · intro ac w1 hS hT hB hD K hK
          have g42 : ac.tmps.getD 42 undef = .bool false := hD ⟨2, .guard⟩ (by simp) rfl _ 42 rfl rfl
          rw [if_pos (want_t (j := 2) (d := 42) rfl rfl g42)]
          clear g42
          have d43 : ac.tmps.getD 43 undef = .int .i64 (fn : Int) := hD ⟨3, .data⟩ (by simp) rfl _ 43 rfl rfl
          have d47 : ac.tmps.getD 47 undef = .int .i64 ((s.size : Int) - (i : Int)) := hD ⟨7, .data⟩ (by simp) rfl _ 47 rfl rfl
          clear hB hD hT
          have t3 : ((s.size : Int) - (i : Int)) < (fn : Int) := by omega
          go_simp
          exact hK _ _ hS (Below.refl _ _) rfl
        · intro ac w1 hS hT hB hD K hK
          rw [if_pos (by rfl)]
          have d42 : ac.tmps.getD 42 undef = .bool false := hD ⟨2, .data⟩ (by simp) rfl _ 42 rfl rfl
          have d48 : ac.tmps.getD 48 undef = .bool true := hD ⟨8, .data⟩ (by simp) rfl _ 48 rfl rfl
          clear hB hD hT
          go_simp
          exact hK _ _ hS (Below.refl _ _) rfl
        · intro ac w1 hS hT hB hD K hK
          rw [if_pos (by rfl)]
          have d49 : ac.tmps.getD 49 undef = .bool true := hD ⟨9, .data⟩ (by simp) rfl _ 49 rfl rfl
          clear hB hD hT
          go_simp
          exact hK _ _ hS (Below.refl _ _) rfl
        · intro ac w1 hS hT hB hD K hK
          have g50 : ac.tmps.getD 50 undef = .bool true := hD ⟨10, .guard⟩ (by simp) rfl _ 50 rfl rfl
          rw [if_neg (by rw [want_f (j := 10) (d := 50) rfl rfl g50 (by decide)]; simp)]
          exact hK _ _ hS (Below.refl _ _) rfl
        · intro ac w1 hS hT hB hD K hK
          have g50 : ac.tmps.getD 50 undef = .bool true := hD ⟨10, .guard⟩ (by simp) rfl _ 50 rfl rfl
          rw [if_neg (by rw [want_f (j := 10) (d := 50) rfl rfl g50 (by decide)]; simp)]
          exact hK _ _ hS (Below.refl _ _) rfl
        · intro ac w1 hS hT hB hD K hK
          have g50 : ac.tmps.getD 50 undef = .bool true := hD ⟨10, .guard⟩ (by simp) rfl _ 50 rfl rfl
          rw [if_neg (by rw [want_f (j := 10) (d := 50) rfl rfl g50 (by decide)]; simp)]
          exact hK _ _ hS (Below.refl _ _) rfl
        · intro ac w1 hS hT hB hD K hK
          have g50 : ac.tmps.getD 50 undef = .bool true := hD ⟨10, .guard⟩ (by simp) rfl _ 50 rfl rfl
          rw [if_neg (by rw [want_f (j := 10) (d := 50) rfl rfl g50 (by decide)]; simp)]
          exact hK _ _ hS (Below.refl _ _) rfl
        · intro ac w1 hS hT hB hD K hK
          have g50 : ac.tmps.getD 50 undef = .bool true := hD ⟨10, .guard⟩ (by simp) rfl _ 50 rfl rfl
          rw [if_neg (by rw [want_f (j := 10) (d := 50) rfl rfl g50 (by decide)]; simp)]
          exact hK _ _ hS (Below.refl _ _) rfl
        · intro ac w1 hS hT hB hD K hK
          have g50 : ac.tmps.getD 50 undef = .bool true := hD ⟨10, .guard⟩ (by simp) rfl _ 50 rfl rfl
          rw [if_neg (by rw [want_f (j := 10) (d := 50) rfl rfl g50 (by decide)]; simp)]
          exact hK _ _ hS (Below.refl _ _) rfl
        · intro ac w1 hS hT hB hD K hK
          have g50 : ac.tmps.getD 50 undef = .bool true := hD ⟨10, .guard⟩ (by simp) rfl _ 50 rfl rfl
          rw [if_neg (by rw [want_f (j := 10) (d := 50) rfl rfl g50 (by decide)]; simp)]
          exact hK _ _ hS (Below.refl _ _) rfl
        · intro ac w1 hS hT hB hD K hK
          have g50 : ac.tmps.getD 50 undef = .bool true := hD ⟨10, .guard⟩ (by simp) rfl _ 50 rfl rfl
          rw [if_neg (by rw [want_f (j := 10) (d := 50) rfl rfl g50 (by decide)]; simp)]
          exact hK _ _ hS (Below.refl _ _) rfl
        · intro ac w1 hS hT hB hD K hK
          have g50 : ac.tmps.getD 50 undef = .bool true := hD ⟨10, .guard⟩ (by simp) rfl _ 50 rfl rfl
          rw [if_neg (by rw [want_f (j := 10) (d := 50) rfl rfl g50 (by decide)]; simp)]
          exact hK _ _ hS (Below.refl _ _) rfl
        · intro ac w1 hS hT hB hD K hK
          have g50 : ac.tmps.getD 50 undef = .bool true := hD ⟨10, .guard⟩ (by simp) rfl _ 50 rfl rfl
          rw [if_neg (by rw [want_f (j := 10) (d := 50) rfl rfl g50 (by decide)]; simp)]
          exact hK _ _ hS (Below.refl _ _) rfl
        · intro ac w1 hS hT hB hD K hK
          have g50 : ac.tmps.getD 50 undef = .bool true := hD ⟨10, .guard⟩ (by simp) rfl _ 50 rfl rfl
          rw [if_neg (by rw [want_f (j := 10) (d := 50) rfl rfl g50 (by decide)]; simp)]
          exact hK _ _ hS (Below.refl _ _) rfl
        · intro ac w1 hS hT hB hD K hK
          have g50 : ac.tmps.getD 50 undef = .bool true := hD ⟨10, .guard⟩ (by simp) rfl _ 50 rfl rfl
          rw [if_neg (by rw [want_f (j := 10) (d := 50) rfl rfl g50 (by decide)]; simp)]
          exact hK _ _ hS (Below.refl _ _) rfl
        · intro ac w1 hS hT hB hD K hK
          have g50 : ac.tmps.getD 50 undef = .bool true := hD ⟨10, .guard⟩ (by simp) rfl _ 50 rfl rfl
          rw [if_neg (by rw [want_f (j := 10) (d := 50) rfl rfl g50 (by decide)]; simp)]
          exact hK _ _ hS (Below.refl _ _) rfl
        · intro ac w1 hS hT hB hD K hK
          have g50 : ac.tmps.getD 50 undef = .bool true := hD ⟨10, .guard⟩ (by simp) rfl _ 50 rfl rfl
          rw [if_neg (by rw [want_f (j := 10) (d := 50) rfl rfl g50 (by decide)]; simp)]
          exact hK _ _ hS (Below.refl _ _) rfl
        · intro ac w1 hS hT hB hD K hK
          rw [if_pos (by rfl)]
          have d50 : ac.tmps.getD 50 undef = .bool true := hD ⟨10, .data⟩ (by simp) rfl _ 50 rfl rfl
          have d64 : ac.tmps.getD 64 undef = undef := hD ⟨24, .data⟩ (by simp) rfl _ 64 rfl rfl
          clear hB hD hT
          go_simp
          exact hK _ _ hS (Below.refl _ _) rfl
      · intro ac w8 hS hT hdf hB hF
        have hfr : ac.tmps = #[.string s, undef, .pointer (some ⟨w.heap.size, 0, none⟩), u3, .pointer (some ⟨w.heap.size + 1, 0, none⟩), .slice (some ⟨w.heap.size + 1 + 1, 0, none⟩) 9 9, .int .i64 (i : Int), .int .i64 (fn : Int), u8, u9, u10, u11, u12, u13, u14, u15, u16, u17, u18, u19, u20, u21, u22, u23, u24, u25, u26, u27, u28, u29, u30, u31, u32, u33, u34, u35, u36, u37, u38, u39, (ac.tmps.getD 40 undef), (ac.tmps.getD 41 undef), (ac.tmps.getD 42 undef), (ac.tmps.getD 43 undef), (ac.tmps.getD 44 undef), (ac.tmps.getD 45 undef), (ac.tmps.getD 46 undef), (ac.tmps.getD 47 undef), (ac.tmps.getD 48 undef), (ac.tmps.getD 49 undef), (ac.tmps.getD 50 undef), (ac.tmps.getD 51 undef), (ac.tmps.getD 52 undef), (ac.tmps.getD 53 undef), (ac.tmps.getD 54 undef), (ac.tmps.getD 55 undef), (ac.tmps.getD 56 undef), (ac.tmps.getD 57 undef), (ac.tmps.getD 58 undef), (ac.tmps.getD 59 undef), (ac.tmps.getD 60 undef), (ac.tmps.getD 61 undef), (ac.tmps.getD 62 undef), (ac.tmps.getD 63 undef), (ac.tmps.getD 64 undef), (ac.tmps.getD 65 undef), u66, u67, u68, u69, u70, u71, u72, u73, u74] := (frame_eq hT rfl hB).trans (by kernel_rfl)
        obtain ⟨T, df⟩ := ac
        have s65 : T.getD 65 undef = .bool true := hF 25 _ 65 rfl rfl
        have sdf : df = [] := hdf
        simp only at hfr
        clear hB hF hT hdf
        generalize T.getD 40 undef = y40 at *
        generalize T.getD 41 undef = y41 at *
        generalize T.getD 42 undef = y42 at *
        generalize T.getD 43 undef = y43 at *
        generalize T.getD 44 undef = y44 at *
        generalize T.getD 45 undef = y45 at *
        generalize T.getD 46 undef = y46 at *
        generalize T.getD 47 undef = y47 at *
        generalize T.getD 48 undef = y48 at *
        generalize T.getD 49 undef = y49 at *
        generalize T.getD 50 undef = y50 at *
        generalize T.getD 51 undef = y51 at *
        generalize T.getD 52 undef = y52 at *
        generalize T.getD 53 undef = y53 at *
        generalize T.getD 54 undef = y54 at *
        generalize T.getD 55 undef = y55 at *
        generalize T.getD 56 undef = y56 at *
        generalize T.getD 57 undef = y57 at *
        generalize T.getD 58 undef = y58 at *
        generalize T.getD 59 undef = y59 at *
        generalize T.getD 60 undef = y60 at *
        generalize T.getD 61 undef = y61 at *
        generalize T.getD 62 undef = y62 at *
        generalize T.getD 63 undef = y63 at *
        generalize T.getD 64 undef = y64 at *
        generalize T.getD 65 undef = y65 at *
        subst hfr s65 sdf
        obtain ⟨⟨r0, r1, r2, r3, r4, r5, r6, r7⟩, ⟨g0, g1, g2, g3, g4, g5, g6, g7⟩, -⟩ := (HR.out.later hS).eight
        have hbl5 := hbl.trans (hS.mono (by omega))
        go_wp2
        exact bodyPost_ret (v := .tuple #[.agg #[.int .i64 0, .int .i64 0, .int .i64 0, .int .i64 0, .bool false, .bool false, .bool false, .slice none 0 0], .int .i64 70]) (by simp [results, Tryz.results77, go_sem, r0, r1, r2, r3, r4, r5, r6, r7]) rfl (by rw [HDEC.out]; exact ⟨rfl, below8 hbl5 (Nat.le_refl _) _ _ _ _ _ _ _ _⟩)
      -- /H
    · rw [if_pos (by simp; omega), hxs, ext_ext s i 2 fn (by omega), ext_ext s i fn (s.size - i) (by omega), show i + (s.size - i) = s.size by omega] at HRM
      have hsl := orun_sl s ((i : Int) + 2) ((i : Int) + (fn : Int)) (s.extract (i + 2) (i + fn)) (by congr 1) (by omega) (by omega) (by omega)
      have hb38 : (s.extract (i + 2) (i + fn)).size ≤ 38 := by rw [ByteArray.size_extract]; omega
      generalize s.extract (i + 2) (i + fn) = b at *
      have HSL : Hid (∀ W, (Instr.slice 9 (.string s) (some (.int .i64 ((i : Int) + 2))) (some (.int .i64 ((i : Int) + (fn : Int)))) none).run Tryz.prog W = .ok (.string b) W) := hsl
      have HPT : Hid (∀ W, At W (w.heap.size + 1) (OV o (.slice va o.rs.length vcap)) → At W (w.heap.size + 2) (seenA o) → W.ownsRow (w.heap.size + 3) 148 2 (.slice va o.rs.length vcap) o.rs.length (flatR o.rs) → w.heap.size + 3 ≤ W.heap.size → Calls Tryz.prog 121 #[.pointer (some ⟨w.heap.size + 1, 0, none⟩), .int .i64 (K0 : Int), .string b, .slice (some ⟨w.heap.size + 2, 0, none⟩) 9 9] W fun en w' => PartPost (stepO o (K0 : Int) b.data.toList) w.heap.size W en w') := fun W h1 h2 h3 h4 => rpart_any o _ (K0 : Int) b w.heap.size W h1 h2 h3 HNIL.out hb38 h4
      have HNX : Hid (runS (s.extract i s.size) o = nextO (stepO o (K0 : Int) b.data.toList) (s.extract (i + fn) s.size)) := HRM
      have hlen0 : ∀ o2, stepO o (K0 : Int) b.data.toList = some o2 → o2.rs.length ≤ 40 := fun o2 h => step_len h hr40 (by rw [toList_size]; omega)
      generalize stepO o (K0 : Int) b.data.toList = r at *
      have HLEN : Hid (∀ o2, r = some o2 → o2.rs.length ≤ 40) := hlen0
      clear hlen0
      clear HRM hsl hb38 hix hix1 hk hfa HR
      have HR : Hid (At wc w.heap.size #[.int .i64 0, .int .i64 0, .int .i64 0, .int .i64 0, .bool false, .bool false, .bool false, .slice none 0 0]) := HRR.out
      have hz40 : (s.size : Int) ≤ 40 := by omega
      have hiz : (i : Int) + (fn : Int) ≤ (s.size : Int) := by omega
      -- I
      go_wp2
      refine wp_region_any (by kernel_rfl) ?_
      refine region_facts_end (fun W => Below wc.heap.size wc W) (GE (fun qq => match qq with | 0 => .int .i64 (fn : Int) | 1 => .bool false | 2 => .bool false | 3 => .int .i64 (fn : Int) | 4 => .string s | 5 => .int .i64 (s.size : Int) | 6 => .int .i64 (i : Int) | 7 => .int .i64 ((s.size : Int) - (i : Int)) | 8 => .bool false | 9 => .bool false | 10 => .bool false | 11 => .string s | 12 => .int .i64 (i : Int) | 13 => .int .u8 (K0 : Int) | 14 => .int .i64 (K0 : Int) | 15 => .string s | 16 => .int .i64 (i : Int) | 17 => .int .i64 ((i : Int) + 2) | 18 => .int .i64 (i : Int) | 19 => .int .i64 (fn : Int) | 20 => .int .i64 ((i : Int) + (fn : Int)) | 21 => .string b | 22 => .slice (some ⟨w.heap.size + 2, 0, none⟩) 9 9 | _ => undef) (fun _ => none)) (n := 75) 23 16 (by kernel_rfl) (by kernel_rfl) rfl (by kernel_rfl) (GE_later _ _ (fun _ _ h => by cases h)) ?_ ?_ ((Below.refl _ _).drew) (Nat.le_refl _)
      · clear HPT HNX HRUN HDO HLEN HQ HOWN HNIL HA HAO HR HRR
        refine ⟨?_, ?_, ?_, ?_, ?_, ?_, ?_, ?_, ?_, ?_, ?_, ?_, ?_, ?_, ?_, ?_, ?_, ?_, ?_, ?_, ?_, ?_, ?_, trivial⟩
        · intro ac w1 hS hT hB hD K hK
          rw [if_pos (by rfl)]
          have d7 : ac.tmps.getD 7 undef = .int .i64 (fn : Int) := hB 7 (by kernel_rfl)
          clear hB hD hT
          go_simp
          exact hK _ _ hS (Below.refl _ _) rfl
        · intro ac w1 hS hT hB hD K hK
          rw [if_pos (by rfl)]
          have d40 : ac.tmps.getD 40 undef = .int .i64 (fn : Int) := hD ⟨0, .data⟩ (by simp) rfl _ 40 rfl rfl
          clear hB hD hT
          have t2 : ¬ (fn : Int) < 2 := by omega
          go_simp
          exact hK _ _ hS (Below.refl _ _) rfl
        · intro ac w1 hS hT hB hD K hK
          rw [if_pos (by rfl)]
          have d41 : ac.tmps.getD 41 undef = .bool false := hD ⟨1, .data⟩ (by simp) rfl _ 41 rfl rfl
          clear hB hD hT
          go_simp
          exact hK _ _ hS (Below.refl _ _) rfl
        · intro ac w1 hS hT hB hD K hK
          have g42 : ac.tmps.getD 42 undef = .bool false := hD ⟨2, .guard⟩ (by simp) rfl _ 42 rfl rfl
          rw [if_pos (want_t (j := 2) (d := 42) rfl rfl g42)]
          clear g42
          have d7 : ac.tmps.getD 7 undef = .int .i64 (fn : Int) := hB 7 (by kernel_rfl)
          clear hB hD hT
          go_simp
          exact hK _ _ hS (Below.refl _ _) rfl
        · intro ac w1 hS hT hB hD K hK
          have g42 : ac.tmps.getD 42 undef = .bool false := hD ⟨2, .guard⟩ (by simp) rfl _ 42 rfl rfl
          rw [if_pos (want_t (j := 2) (d := 42) rfl rfl g42)]
          clear g42
          have d0 : ac.tmps.getD 0 undef = .string s := hB 0 (by kernel_rfl)
          clear hB hD hT
          go_simp
          exact hK _ _ hS (Below.refl _ _) rfl
        · intro ac w1 hS hT hB hD K hK
          have g42 : ac.tmps.getD 42 undef = .bool false := hD ⟨2, .guard⟩ (by simp) rfl _ 42 rfl rfl
          rw [if_pos (want_t (j := 2) (d := 42) rfl rfl g42)]
          clear g42
          have d44 : ac.tmps.getD 44 undef = .string s := hD ⟨4, .data⟩ (by simp) rfl _ 44 rfl rfl
          clear hB hD hT
          go_simp
          exact hK _ _ hS (Below.refl _ _) rfl
        · intro ac w1 hS hT hB hD K hK
          have g42 : ac.tmps.getD 42 undef = .bool false := hD ⟨2, .guard⟩ (by simp) rfl _ 42 rfl rfl
          rw [if_pos (want_t (j := 2) (d := 42) rfl rfl g42)]
          clear g42
          have d6 : ac.tmps.getD 6 undef = .int .i64 (i : Int) := hB 6 (by kernel_rfl)
          clear hB hD hT
          go_simp
          exact hK _ _ hS (Below.refl _ _) rfl
        · intro ac w1 hS hT hB hD K hK
          have g42 : ac.tmps.getD 42 undef = .bool false := hD ⟨2, .guard⟩ (by simp) rfl _ 42 rfl rfl
          rw [if_pos (want_t (j := 2) (d := 42) rfl rfl g42)]
          clear g42
          have d45 : ac.tmps.getD 45 undef = .int .i64 (s.size : Int) := hD ⟨5, .data⟩ (by simp) rfl _ 45 rfl rfl
          have d46 : ac.tmps.getD 46 undef = .int .i64 (i : Int) := hD ⟨6, .data⟩ (by simp) rfl _ 46 rfl rfl
          clear hB hD hT
          have hw1 : IntKind.i64.wrap ((s.size : Int) - (i : Int)) = (s.size : Int) - (i : Int) := by rw [IntKind.wrap_i64]; omega
          go_simp
          exact hK _ _ hS (Below.refl _ _) rfl
        · intro ac w1 hS hT hB hD K hK
          have g42 : ac.tmps.getD 42 undef = .bool false := hD ⟨2, .guard⟩ (by simp) rfl _ 42 rfl rfl
          rw [if_pos (want_t (j := 2) (d := 42) rfl rfl g42)]
          clear g42
          have d43 : ac.tmps.getD 43 undef = .int .i64 (fn : Int) := hD ⟨3, .data⟩ (by simp) rfl _ 43 rfl rfl
          have d47 : ac.tmps.getD 47 undef = .int .i64 ((s.size : Int) - (i : Int)) := hD ⟨7, .data⟩ (by simp) rfl _ 47 rfl rfl
          clear hB hD hT
          have t3 : ¬ ((s.size : Int) - (i : Int)) < (fn : Int) := by omega
          go_simp
          exact hK _ _ hS (Below.refl _ _) rfl
        · intro ac w1 hS hT hB hD K hK
          rw [if_pos (by rfl)]
          have d42 : ac.tmps.getD 42 undef = .bool false := hD ⟨2, .data⟩ (by simp) rfl _ 42 rfl rfl
          have d48 : ac.tmps.getD 48 undef = .bool false := hD ⟨8, .data⟩ (by simp) rfl _ 48 rfl rfl
          clear hB hD hT
          go_simp
          exact hK _ _ hS (Below.refl _ _) rfl
        · intro ac w1 hS hT hB hD K hK
          rw [if_pos (by rfl)]
          have d49 : ac.tmps.getD 49 undef = .bool false := hD ⟨9, .data⟩ (by simp) rfl _ 49 rfl rfl
          clear hB hD hT
          go_simp
          exact hK _ _ hS (Below.refl _ _) rfl
        · intro ac w1 hS hT hB hD K hK
          have g50 : ac.tmps.getD 50 undef = .bool false := hD ⟨10, .guard⟩ (by simp) rfl _ 50 rfl rfl
          rw [if_pos (want_t (j := 10) (d := 50) rfl rfl g50)]
          clear g50
          have d0 : ac.tmps.getD 0 undef = .string s := hB 0 (by kernel_rfl)
          clear hB hD hT
          go_simp
          exact hK _ _ hS (Below.refl _ _) rfl
        · intro ac w1 hS hT hB hD K hK
          have g50 : ac.tmps.getD 50 undef = .bool false := hD ⟨10, .guard⟩ (by simp) rfl _ 50 rfl rfl
          rw [if_pos (want_t (j := 10) (d := 50) rfl rfl g50)]
          clear g50
          have d6 : ac.tmps.getD 6 undef = .int .i64 (i : Int) := hB 6 (by kernel_rfl)
          clear hB hD hT
          go_simp
          exact hK _ _ hS (Below.refl _ _) rfl
        · intro ac w1 hS hT hB hD K hK
          have g50 : ac.tmps.getD 50 undef = .bool false := hD ⟨10, .guard⟩ (by simp) rfl _ 50 rfl rfl
          rw [if_pos (want_t (j := 10) (d := 50) rfl rfl g50)]
          clear g50
          have d51 : ac.tmps.getD 51 undef = .string s := hD ⟨11, .data⟩ (by simp) rfl _ 51 rfl rfl
          have d52 : ac.tmps.getD 52 undef = .int .i64 (i : Int) := hD ⟨12, .data⟩ (by simp) rfl _ 52 rfl rfl
          clear hB hD hT
          have hix := HIX.out
          go_simp
          exact hK _ _ hS (Below.refl _ _) rfl
        · intro ac w1 hS hT hB hD K hK
          have g50 : ac.tmps.getD 50 undef = .bool false := hD ⟨10, .guard⟩ (by simp) rfl _ 50 rfl rfl
          rw [if_pos (want_t (j := 10) (d := 50) rfl rfl g50)]
          clear g50
          have d53 : ac.tmps.getD 53 undef = .int .u8 (K0 : Int) := hD ⟨13, .data⟩ (by simp) rfl _ 53 rfl rfl
          clear hB hD hT
          have hw1 : IntKind.i64.wrap ((K0 : Int)) = (K0 : Int) := by rw [IntKind.wrap_i64]; omega
          go_simp
          exact hK _ _ hS (Below.refl _ _) rfl
        · intro ac w1 hS hT hB hD K hK
          have g50 : ac.tmps.getD 50 undef = .bool false := hD ⟨10, .guard⟩ (by simp) rfl _ 50 rfl rfl
          rw [if_pos (want_t (j := 10) (d := 50) rfl rfl g50)]
          clear g50
          have d0 : ac.tmps.getD 0 undef = .string s := hB 0 (by kernel_rfl)
          clear hB hD hT
          go_simp
          exact hK _ _ hS (Below.refl _ _) rfl
        · intro ac w1 hS hT hB hD K hK
          have g50 : ac.tmps.getD 50 undef = .bool false := hD ⟨10, .guard⟩ (by simp) rfl _ 50 rfl rfl
          rw [if_pos (want_t (j := 10) (d := 50) rfl rfl g50)]
          clear g50
          have d6 : ac.tmps.getD 6 undef = .int .i64 (i : Int) := hB 6 (by kernel_rfl)
          clear hB hD hT
          go_simp
          exact hK _ _ hS (Below.refl _ _) rfl
        · intro ac w1 hS hT hB hD K hK
          have g50 : ac.tmps.getD 50 undef = .bool false := hD ⟨10, .guard⟩ (by simp) rfl _ 50 rfl rfl
          rw [if_pos (want_t (j := 10) (d := 50) rfl rfl g50)]
          clear g50
          have d56 : ac.tmps.getD 56 undef = .int .i64 (i : Int) := hD ⟨16, .data⟩ (by simp) rfl _ 56 rfl rfl
          clear hB hD hT
          have hw1 : IntKind.i64.wrap ((i : Int) + 2) = (i : Int) + 2 := by rw [IntKind.wrap_i64]; omega
          go_simp
          exact hK _ _ hS (Below.refl _ _) rfl
        · intro ac w1 hS hT hB hD K hK
          have g50 : ac.tmps.getD 50 undef = .bool false := hD ⟨10, .guard⟩ (by simp) rfl _ 50 rfl rfl
          rw [if_pos (want_t (j := 10) (d := 50) rfl rfl g50)]
          clear g50
          have d6 : ac.tmps.getD 6 undef = .int .i64 (i : Int) := hB 6 (by kernel_rfl)
          clear hB hD hT
          go_simp
          exact hK _ _ hS (Below.refl _ _) rfl
        · intro ac w1 hS hT hB hD K hK
          have g50 : ac.tmps.getD 50 undef = .bool false := hD ⟨10, .guard⟩ (by simp) rfl _ 50 rfl rfl
          rw [if_pos (want_t (j := 10) (d := 50) rfl rfl g50)]
          clear g50
          have d7 : ac.tmps.getD 7 undef = .int .i64 (fn : Int) := hB 7 (by kernel_rfl)
          clear hB hD hT
          go_simp
          exact hK _ _ hS (Below.refl _ _) rfl
        · intro ac w1 hS hT hB hD K hK
          have g50 : ac.tmps.getD 50 undef = .bool false := hD ⟨10, .guard⟩ (by simp) rfl _ 50 rfl rfl
          rw [if_pos (want_t (j := 10) (d := 50) rfl rfl g50)]
          clear g50
          have d58 : ac.tmps.getD 58 undef = .int .i64 (i : Int) := hD ⟨18, .data⟩ (by simp) rfl _ 58 rfl rfl
          have d59 : ac.tmps.getD 59 undef = .int .i64 (fn : Int) := hD ⟨19, .data⟩ (by simp) rfl _ 59 rfl rfl
          clear hB hD hT
          have hw1 : IntKind.i64.wrap ((i : Int) + (fn : Int)) = (i : Int) + (fn : Int) := by rw [IntKind.wrap_i64]; omega
          go_simp
          exact hK _ _ hS (Below.refl _ _) rfl
        · intro ac w1 hS hT hB hD K hK
          have g50 : ac.tmps.getD 50 undef = .bool false := hD ⟨10, .guard⟩ (by simp) rfl _ 50 rfl rfl
          rw [if_pos (want_t (j := 10) (d := 50) rfl rfl g50)]
          clear g50
          have d55 : ac.tmps.getD 55 undef = .string s := hD ⟨15, .data⟩ (by simp) rfl _ 55 rfl rfl
          have d57 : ac.tmps.getD 57 undef = .int .i64 ((i : Int) + 2) := hD ⟨17, .data⟩ (by simp) rfl _ 57 rfl rfl
          have d60 : ac.tmps.getD 60 undef = .int .i64 ((i : Int) + (fn : Int)) := hD ⟨20, .data⟩ (by simp) rfl _ 60 rfl rfl
          clear hB hD hT
          have hsl := HSL.out
          go_simp
          exact hK _ _ hS (Below.refl _ _) rfl
        · intro ac w1 hS hT hB hD K hK
          have g50 : ac.tmps.getD 50 undef = .bool false := hD ⟨10, .guard⟩ (by simp) rfl _ 50 rfl rfl
          rw [if_pos (want_t (j := 10) (d := 50) rfl rfl g50)]
          clear g50
          have d5 : ac.tmps.getD 5 undef = .slice (some ⟨w.heap.size + 2, 0, none⟩) 9 9 := hB 5 (by kernel_rfl)
          clear hB hD hT
          go_simp
          exact hK _ _ hS (Below.refl _ _) rfl
      · intro ac w8 hS hT hdf hB hF
        have hfr : ac.tmps = #[.string s, undef, .pointer (some ⟨w.heap.size, 0, none⟩), u3, .pointer (some ⟨w.heap.size + 1, 0, none⟩), .slice (some ⟨w.heap.size + 1 + 1, 0, none⟩) 9 9, .int .i64 (i : Int), .int .i64 (fn : Int), u8, u9, u10, u11, u12, u13, u14, u15, u16, u17, u18, u19, u20, u21, u22, u23, u24, u25, u26, u27, u28, u29, u30, u31, u32, u33, u34, u35, u36, u37, u38, u39, (ac.tmps.getD 40 undef), (ac.tmps.getD 41 undef), (ac.tmps.getD 42 undef), (ac.tmps.getD 43 undef), (ac.tmps.getD 44 undef), (ac.tmps.getD 45 undef), (ac.tmps.getD 46 undef), (ac.tmps.getD 47 undef), (ac.tmps.getD 48 undef), (ac.tmps.getD 49 undef), (ac.tmps.getD 50 undef), (ac.tmps.getD 51 undef), (ac.tmps.getD 52 undef), (ac.tmps.getD 53 undef), (ac.tmps.getD 54 undef), (ac.tmps.getD 55 undef), (ac.tmps.getD 56 undef), (ac.tmps.getD 57 undef), (ac.tmps.getD 58 undef), (ac.tmps.getD 59 undef), (ac.tmps.getD 60 undef), (ac.tmps.getD 61 undef), (ac.tmps.getD 62 undef), (ac.tmps.getD 63 undef), (ac.tmps.getD 64 undef), (ac.tmps.getD 65 undef), u66, u67, u68, u69, u70, u71, u72, u73, u74] := (frame_eq hT rfl hB).trans (by kernel_rfl)
        obtain ⟨T, df⟩ := ac
        have s50 : T.getD 50 undef = .bool false := hF 10 _ 50 (by decide) rfl rfl
        have s54 : T.getD 54 undef = .int .i64 (K0 : Int) := hF 14 _ 54 (by decide) rfl rfl
        have s61 : T.getD 61 undef = .string b := hF 21 _ 61 (by decide) rfl rfl
        have s62 : T.getD 62 undef = .slice (some ⟨w.heap.size + 2, 0, none⟩) 9 9 := hF 22 _ 62 (by decide) rfl rfl
        have sdf : df = [] := hdf
        simp only at hfr
        clear hB hF hT hdf
        generalize T.getD 40 undef = y40 at *
        generalize T.getD 41 undef = y41 at *
        generalize T.getD 42 undef = y42 at *
        generalize T.getD 43 undef = y43 at *
        generalize T.getD 44 undef = y44 at *
        generalize T.getD 45 undef = y45 at *
        generalize T.getD 46 undef = y46 at *
        generalize T.getD 47 undef = y47 at *
        generalize T.getD 48 undef = y48 at *
        generalize T.getD 49 undef = y49 at *
        generalize T.getD 50 undef = y50 at *
        generalize T.getD 51 undef = y51 at *
        generalize T.getD 52 undef = y52 at *
        generalize T.getD 53 undef = y53 at *
        generalize T.getD 54 undef = y54 at *
        generalize T.getD 55 undef = y55 at *
        generalize T.getD 56 undef = y56 at *
        generalize T.getD 57 undef = y57 at *
        generalize T.getD 58 undef = y58 at *
        generalize T.getD 59 undef = y59 at *
        generalize T.getD 60 undef = y60 at *
        generalize T.getD 61 undef = y61 at *
        generalize T.getD 62 undef = y62 at *
        generalize T.getD 63 undef = y63 at *
        generalize T.getD 64 undef = y64 at *
        generalize T.getD 65 undef = y65 at *
        subst hfr s50 s54 s61 s62 sdf
        intro Kc hKc
        rw [if_pos (by rfl)]
        go_simp
        refine (HPT.out _ (HAO.out.later hS) (HQ.out.later hS) (own_later HOWN.out hS) (Nat.le_trans hsz hS.size)).mono ?_
        rintro en w9 hpp
        cases r with
        | none =>
          obtain ⟨rfl, hb9⟩ := hpp
          have HDEC : Hid (decO s.data.toList = none) := by show _ = _; rw [HDO.out, ← HRUN.out, HNX.out]; rfl
          have hR9 := (HR.out.later hS).below hb9 (by omega)
          have hbl9 : Below w.heap.size w w9 := (hbl.trans (hS.mono (by omega))).trans (hb9.mono (by omega))
          apply hKc
          clear hKc Kc
          intro Kc hKc
          rw [if_pos (by rfl)]
          go_simp
          apply hKc
          clear hKc Kc
          intro Kc hKc
          rw [if_pos (by rfl)]
          go_simp
          apply hKc
          clear hKc Kc
          refine TailOk_nil ?_
          obtain ⟨⟨r0, r1, r2, r3, r4, r5, r6, r7⟩, ⟨g0, g1, g2, g3, g4, g5, g6, g7⟩, -⟩ := hR9.eight
          go_wp2
          exact bodyPost_ret (v := .tuple #[.agg #[.int .i64 0, .int .i64 0, .int .i64 0, .int .i64 0, .bool false, .bool false, .bool false, .slice none 0 0], .int .i64 70]) (by simp [results, Tryz.results77, go_sem, r0, r1, r2, r3, r4, r5, r6, r7]) rfl (by rw [HDEC.out]; exact ⟨rfl, below8 hbl9 (Nat.le_refl _) _ _ _ _ _ _ _ _⟩)
        | some o2 =>
          obtain ⟨v2, rfl, hA2, hQ2, hown2, hnil2, hb9⟩ := hpp
          have hR9 := (HR.out.later hS).below hb9 (by omega)
          have hbl9 : Below w.heap.size w w9 := (hbl.trans (hS.mono (by omega))).trans (hb9.mono (by omega))
          have hsz9 : w.heap.size + 3 ≤ w9.heap.size := Nat.le_trans (Nat.le_trans hsz hS.size) hb9.size
          apply hKc
          clear hKc Kc
          intro Kc hKc
          rw [if_pos (by rfl)]
          go_simp
          apply hKc
          clear hKc Kc
          intro Kc hKc
          rw [if_pos (by rfl)]
          go_simp
          apply hKc
          clear hKc Kc
          refine TailOk_nil ?_
          go_wp2
          go_roundw
          case rel => exact ⟨i + fn, o2, v2, by omega, by go_num, by rw [← HRUN.out, HNX.out]; rfl, hbl9, hsz9, hR9, hA2, hQ2, hown2, hnil2, HLEN.out o2 rfl⟩
          case measure => simp [intOf]; omega
      -- /I
end Go.Proofs.YtkpdmgoldngdaaaGreatDoor
