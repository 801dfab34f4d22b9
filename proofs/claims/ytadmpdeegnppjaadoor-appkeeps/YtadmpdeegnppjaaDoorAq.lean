/- AppKeeps: what is put is got. -/
import Derived.Test.YtadmpdeegnppjaaDoorAq0
import Derived.Lib.MinMax
import Derived.Laws.Cover1
namespace Go.Proofs.YtadmpdeegnppjaaDoor
open Go.RowKit Go.Maps Go.Shelf Go.Lib
set_option maxRecDepth 100000
set_option linter.unusedVariables false
set_option linter.unusedSimpArgs false


section
variable {w : World}
/-- What the law's loop keeps. -/
structure KL (w wr : World) (b M : Nat) (A : Bk) (m : Mp) (k : Nat) : Prop where
  sx : SX wr A b (sM m)
  vm : VS encL wr M m
  km : KM m k
  nM : ¬ A M
  gM : w.heap.size ≤ M
  bel : Below w.heap.size w wr
  ge : ∀ q, A q → w.heap.size ≤ q
theorem KL.later {wr w' : World} {b M : Nat} {A : Bk} {m : Mp} {k : Nat} (h : KL w wr b M A m k) (hb : Below wr.heap.size wr w') : KL w w' b M A m k :=
  ⟨h.sx.later hb, h.vm.later hb, h.km, h.nM, h.gM, h.bel.trans (hb.mono h.bel.size), h.ge⟩
theorem KL.drewN {wr : World} {b M : Nat} {A : Bk} {m : Mp} {k : Nat} (h : KL w wr b M A m k) (n : Nat) : KL w (wr.drewN n) b M A m k := h.later (belDN wr n)
theorem kl_take {W : World} {b : Nat} {A : Bk} {m m' : Mp} {k j : Nat} {nm v want : By} (hsx : SX W A b (sM m)) (hE : Env W) (hm : KM m k) (hk : k < 64) (hn : okName nm = true) (hnl : nm.length ≤ 11) (hn10 : ∀ b ∈ nm, b ≠ 10) (hvl : v.length ≤ 100) (hv10 : ∀ b ∈ v, b ≠ 10) (hw : wantK m j nm v = (want, m')) :
    Calls Tryd.prog 11 #[PB b, .string (B (twoL (lineK j nm v)))] W fun e w' => e = .returned (.tuple #[.string (B (twoA want m'.length)), .int .i64 0]) ∧ ∃ A', SX w' A' b (sM m') ∧ Turn A W w' ∧ Gr W.heap.size A A' := by
  obtain ⟨hl, h10⟩ := line_ok j hnl hvl hn10 hv10
  have hans := ans_K (m := m) (by have := hm.size; omega) j nm v hn
  rw [hw] at hans
  have ht := take_two hans (by omega) h10
  have hT := take_any hsx hE (hm.ok (by omega)) rfl (twoL (lineK j nm v)) (by unfold twoL; rw [List.length_append]; simp only [List.length_cons, List.length_nil]; omega)
  rw [ht] at hT
  exact hT
theorem KL.next {wr w4 w5 : World} {b M : Nat} {A A5 : Bk} {m m' : Mp} {k : Nat} (h : KL w wr b M A m k) (hv : VS encL w4 M m') (ht : Turn (fun j => j = M) wr w4) (hx : SX w5 A5 b (sM m')) (t5 : Turn A w4 w5) (g5 : Gr w4.heap.size A A5) (hkm : KM m' (k + 1)) : KL w w5 b M A5 m' (k + 1) := by
  have hb4 : Below w.heap.size w w4 := h.bel.trans (ht.below h.bel.size (fun k hk e => by have := h.gM; omega))
  refine ⟨hx, hv.turn t5 h.nM, hkm, fun e => ?_, h.gM, hb4.trans (t5.below hb4.size (fun k hk e => by have := h.ge k e; omega)), fun q hq => ?_⟩
  · rcases g5 M e with e | e
    · exact h.nM e
    · have := hv.lt; omega
  · rcases g5 q hq with e | e
    · exact h.ge q e
    · have := hb4.size; omega
theorem KL.sx4 {wr w4 : World} {b M : Nat} {A : Bk} {m : Mp} {k : Nat} (h : KL w wr b M A m k) (ht : Turn (fun j => j = M) wr w4) : SX w4 A b (sM m) := h.sx.turn ht (fun q hq e => h.nM (by rw [← hq]; exact e))
theorem KL.env4 {wr w4 : World} {b M : Nat} {A : Bk} {m : Mp} {k : Nat} (h : KL w wr b M A m k) (hE : Env w) (ht : Turn (fun j => j = M) wr w4) : Env w4 := (hE.later h.bel).turn ht (fun q hq => by have := h.gM; have := hE.big; omega)
theorem less_no : ∀ {a b : By}, bytesBefore a b = true → Op.bytesLess b a = false
  | [], [], h => by simp [bytesBefore] at h
  | [], _ :: _, _ => rfl
  | _ :: _, [], h => by simp [bytesBefore] at h
  | x :: a, y :: b, h => by
    have h' := h
    simp only [bytesBefore, Bool.or_eq_true, Bool.and_eq_true, decide_eq_true_eq, beq_iff_eq] at h
    unfold Op.bytesLess
    rcases h with h | ⟨h1, h2⟩
    · have q : ¬ y < x := UInt8.not_lt.2 (UInt8.le_of_lt h)
      have q2 : (y == x) = false := beq_eq_false_iff_ne.2 (fun e => by subst e; exact absurd h (UInt8.lt_irrefl _))
      simp [q, q2]
    · subst h1
      simp [less_no h2]
theorem byte10 (y : UInt8) : (((y.toNat : Nat) : Int) == 10) = (y == 10) := by
  by_cases hx : y = 10
  · rw [hx]; rfl
  · rw [beq_eq_false_iff_ne.2 hx]
    exact beq_eq_false_iff_ne.2 (fun e => hx (UInt8.toNat_inj.1 (by simp only [UInt8.reduceToNat]; omega)))
theorem lookL {W : World} {M : Nat} {m : Mp} {nm t : By} (h : VS encL W M m) (hk : nm.length ≤ 32) (hg : mget m nm = some t) : (Instr.lookup 34 (.map (some M)) (.string (B nm)) false).run Tryd.prog W = .ok (.string (B t)) W := by
  rw [h.look Tryd.underlying34 zeroL (klen hk), hg]
  rfl
set_option maxHeartbeats 8000000 in
theorem keeps_any (a : Option Addr) (n cap : Nat) (hE : Env w) (hr : Flat.Rows w a n 3 [.i, .i, .s]) (hz : n * Tryd.prog.bytesOf 37 ≤ 140737488351232) :
    Calls Tryd.prog 4 #[.slice a n cap] w fun e w' => e = .returned (.bool true) ∧ Below w.heap.size w w' := by
  rw [show Tryd.prog.bytesOf 37 = 32 by kernel_rfl] at hz
  have HA : Hid (ArgA w a n) := argA_of hr
  clear hr
  have HE : Hid _ := hE
  clear hE
  have hmm := @run_makeMap Tryd.prog
  go_enter Tryd.func4, Tryd.ntmps4
  go_wp2_with fail
  refine (new_any HE.out).mono ?_
  rintro e w1 ⟨b, A, rfl, h1, hb1, hA1⟩
  go_wp2_with fail
  refine (works_any (HE.out.later hb1)).mono ?_
  rintro e w2 ⟨rfl, hb2⟩
  have h2 := h1.later hb2
  have hb12 := bt hb1 hb2
  have h0 : KL w (w2.alloc (.map #[] 0)) b w2.heap.size A [] 0 := ⟨h2.later (bel1 w2 _), VS.made w2, KM.zero, (fun h => by have := h2.lw _ h; omega), hb12.size, bt hb12 (bel1 w2 _), hA1⟩
  have H0 : Hid _ := h0
  clear h0 h1 h2 hb1 hb2 hb12 hA1
  go_upto_region 5 with go_in
  generalize w2.alloc (.map #[] 0) = wm at *
  generalize w2.heap.size = M at *
  clear hmm
  go_wp2
  go_loopw [5] (fun i wr => ∃ (k : Nat) (m : Mp) (A : Bk), k ≤ n ∧ k ≤ 40 ∧ i = .int .i64 (k : Int) ∧ KL w wr b M A m k) (fun i _ => n - (intOf i).toNat)
  case atStart => exact ⟨0, [], A, Nat.zero_le _, Nat.zero_le _, rfl, H0.out⟩
  case round =>
    clear H0
    obtain ⟨k, m, A', hkn, hk40, rfl, hK⟩ := hrel
    have HK : Hid _ := hK
    have hk0 : (0 : Int) ≤ (k : Int) := by omega
    by_cases hlt : k < n ∧ k < 40
    rotate_left
    · have hl2 : ¬ (k : Int) < (n : Int) ∨ ((k : Int) < (n : Int) ∧ ¬ (k : Int) < 40) := by omega
      obtain ⟨Mp_, vp_, hY⟩ := HK.out.sx
      have hkz := HK.out.km.size
      have hnm := names_any hY ((HK.out.km.ok (by omega)).toM)
      have hms : (sM m).m = m := rfl
      rw [hms] at hnm
      clear hK hY hms
      rcases hl2 with hq | ⟨hq, hq2⟩
      all_goals
        go_wp2_with fail
        refine hnm.mono ?_
        rintro e w7 ⟨y, rfl, hy, hb7⟩
        have H7 : Hid _ := HK.out.later hb7
        have HY7 : Hid (SO w7 wr.heap.size y (m.map (·.1))) := hy
        obtain ⟨ya, yc, rfl, hy0, hyc, hyg⟩ := hy.shape
        rw [List.length_map] at hyc ⊢
        clear hnm hb7 hy
        have hml : m.length ≤ 40 := by omega
        go_upto_region 42 with go_in
        go_wp2
        go_loopw [17] (fun j W => ∃ (q : Nat), 1 ≤ q ∧ q ≤ m.length + 1 ∧ j = .int .i64 (q : Int) ∧ Below w7.heap.size w7 W) (fun j _ => m.length + 1 - (intOf j).toNat)
        case atStart => exact ⟨1, Nat.le_refl _, by omega, rfl, Below.refl _ _⟩
        case round =>
          obtain ⟨q, hq1, hq2', rfl, hbW⟩ := hrel
          have HW : Hid _ := hbW
          clear hbW
          have hq0 : (1 : Int) ≤ (q : Int) := by omega
          by_cases hqm : q < m.length
          · have hqm' : (q : Int) < (m.length : Int) := by omega
            obtain ⟨g, rfl⟩ : ∃ g, ya = some ⟨g, 0, none⟩ := by
              cases ya with
              | none => have h2 := congrArg List.length (hy0 rfl).1; rw [List.length_map, List.length_nil] at h2; omega
              | some ad => obtain ⟨g, e, -⟩ := hyg ad rfl; exact ⟨g, by rw [e]⟩
            have e1 : (m.map (·.1))[q]? = some (m[q].1) := by rw [List.getElem?_map, List.getElem?_eq_getElem hqm]; rfl
            have e2 : (m.map (·.1))[q - 1]? = some (m[q - 1].1) := by rw [List.getElem?_map, List.getElem?_eq_getElem (by omega)]; rfl
            have cq1 : wr.drew.cell? ⟨g, q, none⟩ = some (.string (B m[q].1)) := later (Below.drew HW.out) (HY7.out.cell e1)
            have cq2 : wr.drew.cell? ⟨g, q - 1, none⟩ = some (.string (B m[q - 1].1)) := later (Below.drew HW.out) (HY7.out.cell e2)
            have hbb : bytesBefore m[q - 1].1 m[q].1 = true := List.pairwise_iff_getElem.1 HK.out.km.rise (q - 1) q (by omega) hqm (by omega)
            generalize m[q].1 = s1 at cq1 hbb
            generalize m[q - 1].1 = s0 at cq2 hbb
            have hlt1 : Op.bytesLess (B s1).toList (B s0).toList = false := by rw [B_tl, B_tl]; exact less_no hbb
            have hne1 : ((B s1).toList == (B s0).toList) = false := by rw [B_eq]; exact beq_eq_false_iff_ne.2 (fun e => bb_ne hbb e.symm)
            have hqc : ((q - 1 : Nat) : Int) = (q : Int) - 1 := by omega
            have hq3 : (0 : Int) ≤ (q : Int) - 1 := by omega
            have hq4 : (q : Int) - 1 < (m.length : Int) := by omega
            clear e1 e2 hbb
            go_wp2
            go_region
            all_goals
              go_wp2
              go_roundw
              case rel => exact ⟨q + 1, by omega, by omega, by first | rfl | simp, Below.drew HW.out⟩
              case measure => show m.length + 1 - ((q : Int) + 1).toNat < m.length + 1 - (q : Int).toNat; omega
          · have hqm' : ¬ (q : Int) < (m.length : Int) := by omega
            have hlen9 := fun ty => (H7.out.later HW.out).vm.len Tryd.underlying34 ty
            have hb9 := H7.out.bel.trans (HW.out.mono H7.out.bel.size)
            have HB9 : Hid _ := hb9
            clear hb9
            go_wp2
            go_ret
            exact ⟨by simp, HB9.out⟩
    obtain ⟨hkn1, hk401⟩ := hlt
    have hkn' : (k : Int) < (n : Int) := by omega
    have hk40' : (k : Int) < 40 := by omega
    obtain ⟨ab, off, rfl, hcell⟩ : ∃ ab off, a = some ⟨ab, off, none⟩ ∧ ∀ i, i < n → ∃ (kd nn : Int) (s : By), w.cell? ⟨ab, off + i * 3, none⟩ = some (.int .i64 kd) ∧ w.cell? ⟨ab, off + i * 3 + 1, none⟩ = some (.int .i64 nn) ∧ w.cell? ⟨ab, off + i * 3 + 2, none⟩ = some (.string (B s)) ∧ s.length ≤ 140737488351232 := by
      rcases HA.out with h | h
      · omega
      · exact h
    obtain ⟨kd, nn, v, hc0, hc1, hc2, hvl⟩ := hcell k hkn1
    have HC : Hid _ := And.intro hc0 (And.intro hc1 hc2)
    clear hcell hc0 hc1 hc2
    have y0 := later hK.bel HC.out.1
    have y1 := later hK.bel HC.out.2.1
    have y2 := later hK.bel HC.out.2.2
    have ham := among_any nn 9 wr (by decide) (by decide)
    obtain ⟨x, hxq⟩ : ∃ x, x = nn % 9 := ⟨_, rfl⟩
    have hx0 : 0 ≤ x := by rw [hxq]; exact Int.emod_nonneg _ (by decide)
    have hx1 : x < 9 := by rw [hxq]; exact Int.emod_lt_of_pos _ (by decide)
    rw [← hxq] at ham
    clear hxq
    obtain ⟨hnk, hnl, hn10⟩ := nm_ok hx0 hx1
    have hitn := fun (W : World) (hW : Env W) => itoa_any hW x (by omega) (by omega)
    have hzi : (B (Go.Lib.itoa x)).size ≤ 1000 := by rw [B_size]; have := itoa_len (v := x) (by omega) (by omega); omega
    have HNM : Hid ((⟨#[107]⟩ : ByteArray) ++ B (Go.Lib.itoa x) = B (nmK x)) := by
      have e : B [107] ++ B (Go.Lib.itoa x) = B (nmK x) := by rw [B_app]; rfl
      exact e
    have hvs : (B v).size = v.length := B_size v
    go_wp2_with fail
    refine ham.mono ?_
    rintro e wq ⟨rfl, hwq⟩
    rw [hwq]
    clear hwq wq ham
    go_wp2_with fail
    refine (hitn wr (HE.out.later hK.bel)).mono ?_
    rintro e w3 ⟨rfl, hb3⟩
    have hK3 := hK.later hb3
    clear hitn hK HK y0 y1 y2
    have HK3 : Hid _ := hK3
    have y0 := later hK3.bel HC.out.1
    have y2 := later hK3.bel HC.out.2.2
    clear hK3 hb3
    go_upto_region 9 with fail
    rw [HNM.out]
    clear HNM hzi
    generalize nmK x = nm at *
    go_upto_region 11 with go_in
    go_wp2
    go_loopw [8, 54] (fun bd j W => ∃ (q : Nat), q ≤ v.length ∧ j = .int .i64 (q : Int) ∧ bd = .bool (decide (100 < (v.length : Int)) || (v.take q).any (· == 10)) ∧ W = w3) (fun _ j _ => v.length - (intOf j).toNat)
    case atStart => exact ⟨0, Nat.zero_le _, rfl, by simp, rfl⟩
    case round =>
      obtain ⟨q, hq, rfl, rfl, hW⟩ := hrel
      subst hW
      have hq0 : (0 : Int) ≤ (q : Int) := by omega
      by_cases hqv : q < v.length
      · have hqv' : (q : Int) < (v.length : Int) := by omega
        have hqs : q < (B v).size := by rw [hvs]; exact hqv
        have hnext : (v.take (q + 1)).any (· == 10) = ((v.take q).any (· == 10) || (v[q] == 10)) := by
          rw [List.take_succ_eq_append_getElem hqv, List.any_append, List.any_cons, List.any_nil, Bool.or_false]
          rfl
        have HNX : Hid _ := hnext
        clear hnext
        generalize hbq : (decide (100 < (v.length : Int)) || (v.take q).any (· == 10)) = bq
        have HBQ : Hid _ := hbq
        clear hbq
        cases bq with
        | true =>
          go_wp2
          go_roundw
          case rel => exact ⟨q + 1, hqv, by first | rfl | simp, by rw [HNX.out, ← Bool.or_assoc, HBQ.out]; rfl, by first | trivial | rfl⟩
          case measure => show v.length - ((q : Int) + 1).toNat < v.length - (q : Int).toNat; omega
        | false =>
          have HB1 : Hid (∀ h, ((((B v)[q]'h).toNat : Int) == 10) = (v[q] == 10)) := fun h => by
            rw [B_get v q h]
            exact byte10 _
          go_wp2
          go_roundw
          case rel => exact ⟨q + 1, hqv, by first | rfl | simp, by rw [HNX.out, ← Bool.or_assoc, HBQ.out, HB1.out]; rfl, by first | trivial | rfl⟩
          case measure => show v.length - ((q : Int) + 1).toNat < v.length - (q : Int).toNat; omega
      · have hqv' : ¬ (q : Int) < (v.length : Int) := by omega
        have hqe : q = v.length := by omega
        have htk : (v.take q).any (· == 10) = v.any (· == 10) := by rw [hqe, List.take_length]
        rw [htk]
        clear htk
        generalize hbq : (decide (100 < (v.length : Int)) || v.any (· == 10)) = bq
        have HBQ : Hid _ := hbq
        have HQE : Hid _ := hqe
        clear hbq hqe
        cases bq with
        | true =>
          go_wp2
          go_roundw
          case rel => exact ⟨k + 1, m, A', by omega, by omega, by first | rfl | simp, ⟨HK3.out.sx, HK3.out.vm, HK3.out.km.mono (by omega), HK3.out.nM, HK3.out.gM, HK3.out.bel, HK3.out.ge⟩⟩
          case measure => show n - ((k : Int) + 1).toNat < n - (k : Int).toNat; omega
        | false =>
          have hv100 : v.length ≤ 100 := by
            have := HBQ.out
            simp only [Bool.or_eq_false_iff, decide_eq_false_iff_not] at this
            omega
          have hv10 : ∀ b ∈ v, b ≠ 10 := fun b hb e => by
            have := HBQ.out
            simp only [Bool.or_eq_false_iff] at this
            have h2 := List.any_eq_false.1 this.2 b hb
            simp [e] at h2
          have hkm := klen (k := nm) (by omega)
          have hn6 : m.length < 1000000 := by have := HK3.out.km.size; omega
          obtain ⟨oldv, hov⟩ : ∃ x, x = valF m nm := ⟨_, rfl⟩
          have hol : oldv.length ≤ 300 := by rw [hov]; exact HK3.out.km.val nm
          have HLK : Hid (((mget m nm).map encL).getD (encL []) = encL oldv) := by
            show ((mget m nm).map encL).getD (encL []) = encL oldv
            rw [hov]; unfold valF
            cases mget m nm <;> rfl
          have HOV : Hid _ := hov
          clear hov
          obtain ⟨sb, hsb⟩ : ∃ x, x = (mget m nm).isSome := ⟨_, rfl⟩
          have HSB : Hid _ := hsb
          clear hsb
          have ham4 := among_any kd 4 wr (by decide) (by decide)
          obtain ⟨x4, hx4⟩ : ∃ x, x = kd % 4 := ⟨_, rfl⟩
          have hx40 : 0 ≤ x4 := by rw [hx4]; exact Int.emod_nonneg _ (by decide)
          have hx41 : x4 < 4 := by rw [hx4]; exact Int.emod_lt_of_pos _ (by decide)
          rw [← hx4] at ham4
          clear hx4
          have hzn : (B nm).size ≤ 11 := by rw [B_size]; omega
          have hzv : (B v).size ≤ 100 := by rw [B_size]; omega
          have hzo : (B oldv).size ≤ 300 := by rw [B_size]; omega
          have hzo2 : (B oldv).size = oldv.length := B_size _
          have hkw : x4 = 0 ∨ x4 = 1 ∨ x4 = 2 ∨ x4 = 3 := by omega
          clear hx40 hx41
          rcases hkw with rfl | rfl | rfl | rfl
          · obtain ⟨m2, hm2⟩ : ∃ x, x = mput m (nm, v) := ⟨_, rfl⟩
            obtain ⟨wa, hwa⟩ : ∃ x : By, x = bOK := ⟨_, rfl⟩
            have HW : Hid (wantK m 0 nm v = (wa, m2)) := by
              show wantK m 0 nm v = (wa, m2)
              rw [hm2, hwa]
              rfl
            have HL : Hid ((⟨#[80, 85, 84, 32]⟩ : ByteArray) ++ B nm ++ (⟨#[32]⟩ : ByteArray) ++ B v ++ (⟨#[10, 67, 79, 85, 78, 84, 10]⟩ : ByteArray) = B (twoL (lineK 0 nm v))) := by
              have e : B ([80, 85, 84, 32] : By) ++ B nm ++ B ([32] : By) ++ B v ++ B ([10, 67, 79, 85, 78, 84, 10] : By) = B (twoL (lineK 0 nm v)) := by
                rw [B_app, B_app, B_app, B_app]
                simp [twoL, lineK]
              exact e
            have q : ((B (twoA wa m2.length)).toList == ((⟨#[79, 75]⟩ : ByteArray) ++ (⟨#[10, 67, 79, 85, 78, 84, 32]⟩ : ByteArray) ++ B (Go.Lib.itoa (m2.length : Int)) ++ (⟨#[10]⟩ : ByteArray)).toList) = true := by
              have e : B ([79, 75] : By) ++ B ([10, 67, 79, 85, 78, 84, 32] : By) ++ B (Go.Lib.itoa (m2.length : Int)) ++ B ([10] : By) = B (twoA wa m2.length) := by
                rw [B_app, B_app, B_app, hwa]
                simp [twoA]
              have e' : (⟨#[79, 75]⟩ : ByteArray) ++ (⟨#[10, 67, 79, 85, 78, 84, 32]⟩ : ByteArray) ++ B (Go.Lib.itoa (m2.length : Int)) ++ (⟨#[10]⟩ : ByteArray) = B (twoA wa m2.length) := e
              rw [e', B_eq]
              exact beq_self_eq_true _
            have HM2 : Hid _ := hm2
            clear hm2 hwa
            go_wp2_with (refine wpList_lookup_vs (enc := encL) rfl _ _ rfl M m nm hkm Tryd.underlying34 zeroL rfl HK3.out.vm rfl ?_; rw [HLK.out, ← HSB.out])
            go_wp2_with fail
            refine ham4.mono ?_
            rintro e wq ⟨rfl, hwq⟩
            rw [hwq]
            clear hwq wq ham4
            go_wp2_with (refine wpList_put_vs (enc := encL) rfl _ _ _ rfl M m nm v hkm Tryd.underlying34 hn6 rfl HK3.out.vm rfl rfl ?_; intro w4 hv4 ht4)
            rw [← HM2.out] at hv4
            rw [HL.out]
            refine (kl_take (HK3.out.sx4 ht4) (HK3.out.env4 HE.out ht4) HK3.out.km (by omega) hnk hnl hn10 hv100 hv10 HW.out).mono ?_
            rintro e w5 ⟨rfl, A5, h5, t5, g5⟩
            have hkm5 := HK3.out.km.step 0 (nm := nm) (v := v) (by omega) hv100
            rw [HW.out] at hkm5
            have HN : Hid _ := HK3.out.next hv4 ht4 h5 t5 g5 hkm5
            clear h5 t5 g5 hkm5 hv4 ht4
            have hlen5 : ∀ ty, (Builtin.len_ #[34] ty #[.map (some M)]).run Tryd.prog w5 = .ok (.int .i64 m2.length) w5 := fun ty => HN.out.vm.len Tryd.underlying34 ty
            have hms := HN.out.km.size
            have hil := itoa_len (v := (m2.length : Int)) (by omega) (by omega)
            have hzi : (B (Go.Lib.itoa (m2.length : Int))).size ≤ 1000 := by rw [B_size]; omega
            go_wp2_with fail
            refine (itoa_any (HE.out.later HN.out.bel) (m2.length : Int) (by omega) (by omega)).mono ?_
            rintro e w6 ⟨rfl, hb6⟩
            have H6 : Hid _ := HN.out.later hb6
            clear hb6 hlen5
            go_wp2
            go_roundw
            case rel => exact ⟨k + 1, m2, A5, by omega, by omega, by first | rfl | simp, H6.out⟩
            case measure => show n - ((k : Int) + 1).toNat < n - (k : Int).toNat; omega
          · cases sb with
            | false =>
              obtain ⟨m2, hm2⟩ : ∃ x, x = m := ⟨_, rfl⟩
              obtain ⟨wa, hwa⟩ : ∃ x : By, x = bNONE := ⟨_, rfl⟩
              have HW : Hid (wantK m 1 nm v = (wa, m2)) := by
                show wantK m 1 nm v = (wa, m2)
                rw [hm2, hwa]
                unfold wantK
                cases hg : mget m nm with
                | none => rfl
                | some o => have := HSB.out; rw [hg] at this; cases this
              have HL : Hid ((⟨#[71, 69, 84, 32]⟩ : ByteArray) ++ B nm ++ (⟨#[10, 67, 79, 85, 78, 84, 10]⟩ : ByteArray) = B (twoL (lineK 1 nm v))) := by
                have e : B ([71, 69, 84, 32] : By) ++ B nm ++ B ([10, 67, 79, 85, 78, 84, 10] : By) = B (twoL (lineK 1 nm v)) := by
                  rw [B_app, B_app]
                  simp [twoL, lineK]
                exact e
              have q : ((B (twoA wa m2.length)).toList == ((⟨#[78, 79, 78, 69]⟩ : ByteArray) ++ (⟨#[10, 67, 79, 85, 78, 84, 32]⟩ : ByteArray) ++ B (Go.Lib.itoa (m2.length : Int)) ++ (⟨#[10]⟩ : ByteArray)).toList) = true := by
                have e : B ([78, 79, 78, 69] : By) ++ B ([10, 67, 79, 85, 78, 84, 32] : By) ++ B (Go.Lib.itoa (m2.length : Int)) ++ B ([10] : By) = B (twoA wa m2.length) := by
                  rw [B_app, B_app, B_app, hwa]
                  simp [twoA]
                have e' : (⟨#[78, 79, 78, 69]⟩ : ByteArray) ++ (⟨#[10, 67, 79, 85, 78, 84, 32]⟩ : ByteArray) ++ B (Go.Lib.itoa (m2.length : Int)) ++ (⟨#[10]⟩ : ByteArray) = B (twoA wa m2.length) := e
                rw [e', B_eq]
                exact beq_self_eq_true _
              have HM2 : Hid _ := hm2
              clear hm2 hwa
              go_wp2_with (refine wpList_lookup_vs (enc := encL) rfl _ _ rfl M m nm hkm Tryd.underlying34 zeroL rfl HK3.out.vm rfl ?_; rw [HLK.out, ← HSB.out])
              go_wp2_with fail
              refine ham4.mono ?_
              rintro e wq ⟨rfl, hwq⟩
              rw [hwq]
              clear hwq wq ham4
              have hv4 := HK3.out.vm
              have ht4 : Turn (fun j => j = M) wr wr := Turn.refl _
              rw [← HM2.out] at hv4
              go_wp2_with fail
              rw [HL.out]
              refine (kl_take (HK3.out.sx4 ht4) (HK3.out.env4 HE.out ht4) HK3.out.km (by omega) hnk hnl hn10 hv100 hv10 HW.out).mono ?_
              rintro e w5 ⟨rfl, A5, h5, t5, g5⟩
              have hkm5 := HK3.out.km.step 1 (nm := nm) (v := v) (by omega) hv100
              rw [HW.out] at hkm5
              have HN : Hid _ := HK3.out.next hv4 ht4 h5 t5 g5 hkm5
              clear h5 t5 g5 hkm5 hv4 ht4
              have hlen5 : ∀ ty, (Builtin.len_ #[34] ty #[.map (some M)]).run Tryd.prog w5 = .ok (.int .i64 m2.length) w5 := fun ty => HN.out.vm.len Tryd.underlying34 ty
              have hms := HN.out.km.size
              have hil := itoa_len (v := (m2.length : Int)) (by omega) (by omega)
              have hzi : (B (Go.Lib.itoa (m2.length : Int))).size ≤ 1000 := by rw [B_size]; omega
              go_wp2_with fail
              refine (itoa_any (HE.out.later HN.out.bel) (m2.length : Int) (by omega) (by omega)).mono ?_
              rintro e w6 ⟨rfl, hb6⟩
              have H6 : Hid _ := HN.out.later hb6
              clear hb6 hlen5
              go_wp2
              go_roundw
              case rel => exact ⟨k + 1, m2, A5, by omega, by omega, by first | rfl | simp, H6.out⟩
              case measure => show n - ((k : Int) + 1).toNat < n - (k : Int).toNat; omega
            | true =>
              obtain ⟨m2, hm2⟩ : ∃ x, x = m := ⟨_, rfl⟩
              obtain ⟨wa, hwa⟩ : ∃ x : By, x = bVALUE ++ oldv := ⟨_, rfl⟩
              have HW : Hid (wantK m 1 nm v = (wa, m2)) := by
                show wantK m 1 nm v = (wa, m2)
                rw [hm2, hwa]
                rw [HOV.out]
                unfold wantK valF
                cases hg : mget m nm with
                | none => have := HSB.out; rw [hg] at this; cases this
                | some o => rfl
              have HL : Hid ((⟨#[71, 69, 84, 32]⟩ : ByteArray) ++ B nm ++ (⟨#[10, 67, 79, 85, 78, 84, 10]⟩ : ByteArray) = B (twoL (lineK 1 nm v))) := by
                have e : B ([71, 69, 84, 32] : By) ++ B nm ++ B ([10, 67, 79, 85, 78, 84, 10] : By) = B (twoL (lineK 1 nm v)) := by
                  rw [B_app, B_app]
                  simp [twoL, lineK]
                exact e
              have q : ((B (twoA wa m2.length)).toList == ((⟨#[86, 65, 76, 85, 69, 32]⟩ : ByteArray) ++ B oldv ++ (⟨#[10, 67, 79, 85, 78, 84, 32]⟩ : ByteArray) ++ B (Go.Lib.itoa (m2.length : Int)) ++ (⟨#[10]⟩ : ByteArray)).toList) = true := by
                have e : B ([86, 65, 76, 85, 69, 32] : By) ++ B oldv ++ B ([10, 67, 79, 85, 78, 84, 32] : By) ++ B (Go.Lib.itoa (m2.length : Int)) ++ B ([10] : By) = B (twoA wa m2.length) := by
                  rw [B_app, B_app, B_app, B_app, hwa]
                  simp [twoA]
                have e' : (⟨#[86, 65, 76, 85, 69, 32]⟩ : ByteArray) ++ B oldv ++ (⟨#[10, 67, 79, 85, 78, 84, 32]⟩ : ByteArray) ++ B (Go.Lib.itoa (m2.length : Int)) ++ (⟨#[10]⟩ : ByteArray) = B (twoA wa m2.length) := e
                rw [e', B_eq]
                exact beq_self_eq_true _
              have HM2 : Hid _ := hm2
              clear hm2 hwa
              go_wp2_with (refine wpList_lookup_vs (enc := encL) rfl _ _ rfl M m nm hkm Tryd.underlying34 zeroL rfl HK3.out.vm rfl ?_; rw [HLK.out, ← HSB.out])
              go_wp2_with fail
              refine ham4.mono ?_
              rintro e wq ⟨rfl, hwq⟩
              rw [hwq]
              clear hwq wq ham4
              have hv4 := HK3.out.vm
              have ht4 : Turn (fun j => j = M) wr wr := Turn.refl _
              rw [← HM2.out] at hv4
              go_wp2_with fail
              rw [HL.out]
              refine (kl_take (HK3.out.sx4 ht4) (HK3.out.env4 HE.out ht4) HK3.out.km (by omega) hnk hnl hn10 hv100 hv10 HW.out).mono ?_
              rintro e w5 ⟨rfl, A5, h5, t5, g5⟩
              have hkm5 := HK3.out.km.step 1 (nm := nm) (v := v) (by omega) hv100
              rw [HW.out] at hkm5
              have HN : Hid _ := HK3.out.next hv4 ht4 h5 t5 g5 hkm5
              clear h5 t5 g5 hkm5 hv4 ht4
              have hlen5 : ∀ ty, (Builtin.len_ #[34] ty #[.map (some M)]).run Tryd.prog w5 = .ok (.int .i64 m2.length) w5 := fun ty => HN.out.vm.len Tryd.underlying34 ty
              have hms := HN.out.km.size
              have hil := itoa_len (v := (m2.length : Int)) (by omega) (by omega)
              have hzi : (B (Go.Lib.itoa (m2.length : Int))).size ≤ 1000 := by rw [B_size]; omega
              go_wp2_with fail
              refine (itoa_any (HE.out.later HN.out.bel) (m2.length : Int) (by omega) (by omega)).mono ?_
              rintro e w6 ⟨rfl, hb6⟩
              have H6 : Hid _ := HN.out.later hb6
              clear hb6 hlen5
              go_wp2
              go_roundw
              case rel => exact ⟨k + 1, m2, A5, by omega, by omega, by first | rfl | simp, H6.out⟩
              case measure => show n - ((k : Int) + 1).toNat < n - (k : Int).toNat; omega
          · cases sb with
            | false =>
              obtain ⟨m2, hm2⟩ : ∃ x, x = mdel m nm := ⟨_, rfl⟩
              obtain ⟨wa, hwa⟩ : ∃ x : By, x = bNONE := ⟨_, rfl⟩
              have HW : Hid (wantK m 2 nm v = (wa, m2)) := by
                show wantK m 2 nm v = (wa, m2)
                rw [hm2, hwa]
                unfold wantK
                cases hg : mget m nm with
                | none => rfl
                | some o => have := HSB.out; rw [hg] at this; cases this
              have HL : Hid ((⟨#[68, 69, 76, 32]⟩ : ByteArray) ++ B nm ++ (⟨#[10, 67, 79, 85, 78, 84, 10]⟩ : ByteArray) = B (twoL (lineK 2 nm v))) := by
                have e : B ([68, 69, 76, 32] : By) ++ B nm ++ B ([10, 67, 79, 85, 78, 84, 10] : By) = B (twoL (lineK 2 nm v)) := by
                  rw [B_app, B_app]
                  simp [twoL, lineK]
                exact e
              have q : ((B (twoA wa m2.length)).toList == ((⟨#[78, 79, 78, 69]⟩ : ByteArray) ++ (⟨#[10, 67, 79, 85, 78, 84, 32]⟩ : ByteArray) ++ B (Go.Lib.itoa (m2.length : Int)) ++ (⟨#[10]⟩ : ByteArray)).toList) = true := by
                have e : B ([78, 79, 78, 69] : By) ++ B ([10, 67, 79, 85, 78, 84, 32] : By) ++ B (Go.Lib.itoa (m2.length : Int)) ++ B ([10] : By) = B (twoA wa m2.length) := by
                  rw [B_app, B_app, B_app, hwa]
                  simp [twoA]
                have e' : (⟨#[78, 79, 78, 69]⟩ : ByteArray) ++ (⟨#[10, 67, 79, 85, 78, 84, 32]⟩ : ByteArray) ++ B (Go.Lib.itoa (m2.length : Int)) ++ (⟨#[10]⟩ : ByteArray) = B (twoA wa m2.length) := e
                rw [e', B_eq]
                exact beq_self_eq_true _
              have HM2 : Hid _ := hm2
              clear hm2 hwa
              go_wp2_with (refine wpList_lookup_vs (enc := encL) rfl _ _ rfl M m nm hkm Tryd.underlying34 zeroL rfl HK3.out.vm rfl ?_; rw [HLK.out, ← HSB.out])
              go_wp2_with fail
              refine ham4.mono ?_
              rintro e wq ⟨rfl, hwq⟩
              rw [hwq]
              clear hwq wq ham4
              go_wp2_with (refine wpList_delete_vs (enc := encL) rfl _ _ rfl M m nm hkm Tryd.underlying34 rfl HK3.out.vm rfl ?_; intro w4 hv4 ht4)
              rw [← HM2.out] at hv4
              rw [HL.out]
              refine (kl_take (HK3.out.sx4 ht4) (HK3.out.env4 HE.out ht4) HK3.out.km (by omega) hnk hnl hn10 hv100 hv10 HW.out).mono ?_
              rintro e w5 ⟨rfl, A5, h5, t5, g5⟩
              have hkm5 := HK3.out.km.step 2 (nm := nm) (v := v) (by omega) hv100
              rw [HW.out] at hkm5
              have HN : Hid _ := HK3.out.next hv4 ht4 h5 t5 g5 hkm5
              clear h5 t5 g5 hkm5 hv4 ht4
              have hlen5 : ∀ ty, (Builtin.len_ #[34] ty #[.map (some M)]).run Tryd.prog w5 = .ok (.int .i64 m2.length) w5 := fun ty => HN.out.vm.len Tryd.underlying34 ty
              have hms := HN.out.km.size
              have hil := itoa_len (v := (m2.length : Int)) (by omega) (by omega)
              have hzi : (B (Go.Lib.itoa (m2.length : Int))).size ≤ 1000 := by rw [B_size]; omega
              go_wp2_with fail
              refine (itoa_any (HE.out.later HN.out.bel) (m2.length : Int) (by omega) (by omega)).mono ?_
              rintro e w6 ⟨rfl, hb6⟩
              have H6 : Hid _ := HN.out.later hb6
              clear hb6 hlen5
              go_wp2
              go_roundw
              case rel => exact ⟨k + 1, m2, A5, by omega, by omega, by first | rfl | simp, H6.out⟩
              case measure => show n - ((k : Int) + 1).toNat < n - (k : Int).toNat; omega
            | true =>
              obtain ⟨m2, hm2⟩ : ∃ x, x = mdel m nm := ⟨_, rfl⟩
              obtain ⟨wa, hwa⟩ : ∃ x : By, x = bOK := ⟨_, rfl⟩
              have HW : Hid (wantK m 2 nm v = (wa, m2)) := by
                show wantK m 2 nm v = (wa, m2)
                rw [hm2, hwa]
                unfold wantK
                cases hg : mget m nm with
                | none => have := HSB.out; rw [hg] at this; cases this
                | some o => rfl
              have HL : Hid ((⟨#[68, 69, 76, 32]⟩ : ByteArray) ++ B nm ++ (⟨#[10, 67, 79, 85, 78, 84, 10]⟩ : ByteArray) = B (twoL (lineK 2 nm v))) := by
                have e : B ([68, 69, 76, 32] : By) ++ B nm ++ B ([10, 67, 79, 85, 78, 84, 10] : By) = B (twoL (lineK 2 nm v)) := by
                  rw [B_app, B_app]
                  simp [twoL, lineK]
                exact e
              have q : ((B (twoA wa m2.length)).toList == ((⟨#[79, 75]⟩ : ByteArray) ++ (⟨#[10, 67, 79, 85, 78, 84, 32]⟩ : ByteArray) ++ B (Go.Lib.itoa (m2.length : Int)) ++ (⟨#[10]⟩ : ByteArray)).toList) = true := by
                have e : B ([79, 75] : By) ++ B ([10, 67, 79, 85, 78, 84, 32] : By) ++ B (Go.Lib.itoa (m2.length : Int)) ++ B ([10] : By) = B (twoA wa m2.length) := by
                  rw [B_app, B_app, B_app, hwa]
                  simp [twoA]
                have e' : (⟨#[79, 75]⟩ : ByteArray) ++ (⟨#[10, 67, 79, 85, 78, 84, 32]⟩ : ByteArray) ++ B (Go.Lib.itoa (m2.length : Int)) ++ (⟨#[10]⟩ : ByteArray) = B (twoA wa m2.length) := e
                rw [e', B_eq]
                exact beq_self_eq_true _
              have HM2 : Hid _ := hm2
              clear hm2 hwa
              go_wp2_with (refine wpList_lookup_vs (enc := encL) rfl _ _ rfl M m nm hkm Tryd.underlying34 zeroL rfl HK3.out.vm rfl ?_; rw [HLK.out, ← HSB.out])
              go_wp2_with fail
              refine ham4.mono ?_
              rintro e wq ⟨rfl, hwq⟩
              rw [hwq]
              clear hwq wq ham4
              go_wp2_with (refine wpList_delete_vs (enc := encL) rfl _ _ rfl M m nm hkm Tryd.underlying34 rfl HK3.out.vm rfl ?_; intro w4 hv4 ht4)
              rw [← HM2.out] at hv4
              rw [HL.out]
              refine (kl_take (HK3.out.sx4 ht4) (HK3.out.env4 HE.out ht4) HK3.out.km (by omega) hnk hnl hn10 hv100 hv10 HW.out).mono ?_
              rintro e w5 ⟨rfl, A5, h5, t5, g5⟩
              have hkm5 := HK3.out.km.step 2 (nm := nm) (v := v) (by omega) hv100
              rw [HW.out] at hkm5
              have HN : Hid _ := HK3.out.next hv4 ht4 h5 t5 g5 hkm5
              clear h5 t5 g5 hkm5 hv4 ht4
              have hlen5 : ∀ ty, (Builtin.len_ #[34] ty #[.map (some M)]).run Tryd.prog w5 = .ok (.int .i64 m2.length) w5 := fun ty => HN.out.vm.len Tryd.underlying34 ty
              have hms := HN.out.km.size
              have hil := itoa_len (v := (m2.length : Int)) (by omega) (by omega)
              have hzi : (B (Go.Lib.itoa (m2.length : Int))).size ≤ 1000 := by rw [B_size]; omega
              go_wp2_with fail
              refine (itoa_any (HE.out.later HN.out.bel) (m2.length : Int) (by omega) (by omega)).mono ?_
              rintro e w6 ⟨rfl, hb6⟩
              have H6 : Hid _ := HN.out.later hb6
              clear hb6 hlen5
              go_wp2
              go_roundw
              case rel => exact ⟨k + 1, m2, A5, by omega, by omega, by first | rfl | simp, H6.out⟩
              case measure => show n - ((k : Int) + 1).toNat < n - (k : Int).toNat; omega
          · by_cases hfit : oldv.length + v.length ≤ 200
            · have hf3 : ((oldv.length : Int) + (v.length : Int)) ≤ 200 := by omega
              obtain ⟨ov, hovv⟩ : ∃ x, x = oldv ++ v := ⟨_, rfl⟩
              have hovl : ov.length ≤ 200 := by rw [hovv, List.length_append]; omega
              have HOVV : Hid (B oldv ++ B v = B ov) := by show B oldv ++ B v = B ov; rw [hovv, B_app]
              have hgp : mget (mput m (nm, ov)) nm = some ov := by rw [mget_put HK3.out.km.rise, if_pos rfl]
              have hzov : (B ov).size = ov.length := B_size _
              have hio := itoa_len (v := (ov.length : Int)) (by omega) (by omega)
              have hzio : (B (Go.Lib.itoa (ov.length : Int))).size ≤ 1000 := by rw [B_size]; omega
              obtain ⟨m2, hm2⟩ : ∃ x, x = mput m (nm, ov) := ⟨_, rfl⟩
              obtain ⟨wa, hwa⟩ : ∃ x : By, x = bCOUNT ++ Go.Lib.itoa (ov.length : Int) := ⟨_, rfl⟩
              have HW : Hid (wantK m 3 nm v = (wa, m2)) := by
                show wantK m 3 nm v = (wa, m2)
                rw [hm2, hwa]
                rw [hovv, HOV.out]
                unfold wantK
                rw [if_neg (by decide), if_neg (by decide), if_neg (by decide), if_pos (by rw [← HOV.out, ← hovv]; exact hovl)]
              have HL : Hid ((⟨#[65, 80, 80, 32]⟩ : ByteArray) ++ B nm ++ (⟨#[32]⟩ : ByteArray) ++ B v ++ (⟨#[10, 67, 79, 85, 78, 84, 10]⟩ : ByteArray) = B (twoL (lineK 3 nm v))) := by
                have e : B ([65, 80, 80, 32] : By) ++ B nm ++ B ([32] : By) ++ B v ++ B ([10, 67, 79, 85, 78, 84, 10] : By) = B (twoL (lineK 3 nm v)) := by
                  rw [B_app, B_app, B_app, B_app]
                  simp [twoL, lineK]
                exact e
              have q : ((B (twoA wa m2.length)).toList == ((⟨#[67, 79, 85, 78, 84, 32]⟩ : ByteArray) ++ B (Go.Lib.itoa (ov.length : Int)) ++ (⟨#[10, 67, 79, 85, 78, 84, 32]⟩ : ByteArray) ++ B (Go.Lib.itoa (m2.length : Int)) ++ (⟨#[10]⟩ : ByteArray)).toList) = true := by
                have e : B ([67, 79, 85, 78, 84, 32] : By) ++ B (Go.Lib.itoa (ov.length : Int)) ++ B ([10, 67, 79, 85, 78, 84, 32] : By) ++ B (Go.Lib.itoa (m2.length : Int)) ++ B ([10] : By) = B (twoA wa m2.length) := by
                  rw [B_app, B_app, B_app, B_app, hwa]
                  simp [twoA]
                have e' : (⟨#[67, 79, 85, 78, 84, 32]⟩ : ByteArray) ++ B (Go.Lib.itoa (ov.length : Int)) ++ (⟨#[10, 67, 79, 85, 78, 84, 32]⟩ : ByteArray) ++ B (Go.Lib.itoa (m2.length : Int)) ++ (⟨#[10]⟩ : ByteArray) = B (twoA wa m2.length) := e
                rw [e', B_eq]
                exact beq_self_eq_true _
              have HM2 : Hid _ := hm2
              clear hm2 hwa hovv
              go_wp2_with (refine wpList_lookup_vs (enc := encL) rfl _ _ rfl M m nm hkm Tryd.underlying34 zeroL rfl HK3.out.vm rfl ?_; rw [HLK.out, ← HSB.out])
              go_wp2_with fail
              refine ham4.mono ?_
              rintro e wq ⟨rfl, hwq⟩
              rw [hwq]
              clear hwq wq ham4
              go_wp2_with (refine wpList_put_vs (enc := encL) rfl _ _ _ rfl M m nm ov hkm Tryd.underlying34 hn6 rfl HK3.out.vm rfl (congrArg Value.string HOVV.out) ?_; intro w4 hv4 ht4; have hlk2 := lookL hv4 (by omega) hgp)
              refine (itoa_any (HK3.out.env4 HE.out ht4) (ov.length : Int) (by omega) (by omega)).mono ?_
              rintro e w4i ⟨rfl, hbi⟩
              have hv4i := hv4.later hbi
              have ht4i := ht4.later hbi
              rw [← HM2.out] at hv4i
              clear hv4 ht4 hbi hlk2
              go_wp2_with fail
              rw [HL.out]
              refine (kl_take (HK3.out.sx4 ht4i) (HK3.out.env4 HE.out ht4i) HK3.out.km (by omega) hnk hnl hn10 hv100 hv10 HW.out).mono ?_
              rintro e w5 ⟨rfl, A5, h5, t5, g5⟩
              have hkm5 := HK3.out.km.step 3 (nm := nm) (v := v) (by omega) hv100
              rw [HW.out] at hkm5
              have HN : Hid _ := HK3.out.next hv4i ht4i h5 t5 g5 hkm5
              clear h5 t5 g5 hkm5 hv4i ht4i
              have hlen5 : ∀ ty, (Builtin.len_ #[34] ty #[.map (some M)]).run Tryd.prog w5 = .ok (.int .i64 m2.length) w5 := fun ty => HN.out.vm.len Tryd.underlying34 ty
              have hms := HN.out.km.size
              have hil := itoa_len (v := (m2.length : Int)) (by omega) (by omega)
              have hzi : (B (Go.Lib.itoa (m2.length : Int))).size ≤ 1000 := by rw [B_size]; omega
              go_wp2_with fail
              refine (itoa_any (HE.out.later HN.out.bel) (m2.length : Int) (by omega) (by omega)).mono ?_
              rintro e w6 ⟨rfl, hb6⟩
              have H6 : Hid _ := HN.out.later hb6
              clear hb6 hlen5
              go_wp2
              go_roundw
              case rel => exact ⟨k + 1, m2, A5, by omega, by omega, by first | rfl | simp, H6.out⟩
              case measure => show n - ((k : Int) + 1).toNat < n - (k : Int).toNat; omega
            · have hf3 : ¬ ((oldv.length : Int) + (v.length : Int)) ≤ 200 := by omega
              obtain ⟨m2, hm2⟩ : ∃ x, x = m := ⟨_, rfl⟩
              obtain ⟨wa, hwa⟩ : ∃ x : By, x = bFULL := ⟨_, rfl⟩
              have HW : Hid (wantK m 3 nm v = (wa, m2)) := by
                show wantK m 3 nm v = (wa, m2)
                rw [hm2, hwa]
                unfold wantK
                rw [if_neg (by decide), if_neg (by decide), if_neg (by decide), if_neg (by rw [← HOV.out, List.length_append]; omega)]
              have HL : Hid ((⟨#[65, 80, 80, 32]⟩ : ByteArray) ++ B nm ++ (⟨#[32]⟩ : ByteArray) ++ B v ++ (⟨#[10, 67, 79, 85, 78, 84, 10]⟩ : ByteArray) = B (twoL (lineK 3 nm v))) := by
                have e : B ([65, 80, 80, 32] : By) ++ B nm ++ B ([32] : By) ++ B v ++ B ([10, 67, 79, 85, 78, 84, 10] : By) = B (twoL (lineK 3 nm v)) := by
                  rw [B_app, B_app, B_app, B_app]
                  simp [twoL, lineK]
                exact e
              have q : ((B (twoA wa m2.length)).toList == ((⟨#[70, 85, 76, 76]⟩ : ByteArray) ++ (⟨#[10, 67, 79, 85, 78, 84, 32]⟩ : ByteArray) ++ B (Go.Lib.itoa (m2.length : Int)) ++ (⟨#[10]⟩ : ByteArray)).toList) = true := by
                have e : B ([70, 85, 76, 76] : By) ++ B ([10, 67, 79, 85, 78, 84, 32] : By) ++ B (Go.Lib.itoa (m2.length : Int)) ++ B ([10] : By) = B (twoA wa m2.length) := by
                  rw [B_app, B_app, B_app, hwa]
                  simp [twoA]
                have e' : (⟨#[70, 85, 76, 76]⟩ : ByteArray) ++ (⟨#[10, 67, 79, 85, 78, 84, 32]⟩ : ByteArray) ++ B (Go.Lib.itoa (m2.length : Int)) ++ (⟨#[10]⟩ : ByteArray) = B (twoA wa m2.length) := e
                rw [e', B_eq]
                exact beq_self_eq_true _
              have HM2 : Hid _ := hm2
              clear hm2 hwa
              go_wp2_with (refine wpList_lookup_vs (enc := encL) rfl _ _ rfl M m nm hkm Tryd.underlying34 zeroL rfl HK3.out.vm rfl ?_; rw [HLK.out, ← HSB.out])
              go_wp2_with fail
              refine ham4.mono ?_
              rintro e wq ⟨rfl, hwq⟩
              rw [hwq]
              clear hwq wq ham4
              have hv4 := HK3.out.vm
              have ht4 : Turn (fun j => j = M) wr wr := Turn.refl _
              rw [← HM2.out] at hv4
              go_wp2_with fail
              rw [HL.out]
              refine (kl_take (HK3.out.sx4 ht4) (HK3.out.env4 HE.out ht4) HK3.out.km (by omega) hnk hnl hn10 hv100 hv10 HW.out).mono ?_
              rintro e w5 ⟨rfl, A5, h5, t5, g5⟩
              have hkm5 := HK3.out.km.step 3 (nm := nm) (v := v) (by omega) hv100
              rw [HW.out] at hkm5
              have HN : Hid _ := HK3.out.next hv4 ht4 h5 t5 g5 hkm5
              clear h5 t5 g5 hkm5 hv4 ht4
              have hlen5 : ∀ ty, (Builtin.len_ #[34] ty #[.map (some M)]).run Tryd.prog w5 = .ok (.int .i64 m2.length) w5 := fun ty => HN.out.vm.len Tryd.underlying34 ty
              have hms := HN.out.km.size
              have hil := itoa_len (v := (m2.length : Int)) (by omega) (by omega)
              have hzi : (B (Go.Lib.itoa (m2.length : Int))).size ≤ 1000 := by rw [B_size]; omega
              go_wp2_with fail
              refine (itoa_any (HE.out.later HN.out.bel) (m2.length : Int) (by omega) (by omega)).mono ?_
              rintro e w6 ⟨rfl, hb6⟩
              have H6 : Hid _ := HN.out.later hb6
              clear hb6 hlen5
              go_wp2
              go_roundw
              case rel => exact ⟨k + 1, m2, A5, by omega, by omega, by first | rfl | simp, H6.out⟩
              case measure => show n - ((k : Int) + 1).toNat < n - (k : Int).toNat; omega
end
end Go.Proofs.YtadmpdeegnppjaaDoor
