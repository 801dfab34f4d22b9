/- The document's side: line. -/
import Derived.Test.YtadmpdeegnppjaaGreatDoorRi
namespace Go.Proofs.YtadmpdeegnppjaaGreatDoor
open Go.RowKit Go.Maps Go.Shelf Go.Lib
set_option maxRecDepth 100000
set_option linter.unusedVariables false
set_option linter.unusedSimpArgs false


def LineQ (w : World) (b : Nat) (v : Value) (l : By) (lg : Bool) (R : By × Mp × Bool) (e : Ending) (w' : World) : Prop :=
  e = .returned (.string (B R.1)) ∧ ∃ v', RY w' b v' ⟨R.2.1, l, lg, R.2.2⟩ ∧ Turn (fun j => j = b) w w' ∧ Lies v v' w.heap.size
theorem one_at (x : KV) : ([x].map fun e => (32 : UInt8) :: e.1).flatten = 32 :: x.1 := by simp
theorem list_take (m : Mp) (i : Nat) (e : KV) (h : m[i]? = some e) : listF (m.take (i + 1)) = listF (m.take i) ++ (32 :: e.1) := by
  unfold listF
  rw [List.take_add_one, h]
  simp
theorem rlist_len (m : Mp) (h : OkM m) (i : Nat) : (listF (m.take i)).length ≤ 2200 := by
  unfold listF
  have key : ∀ (n : Nat) (l : Mp), l.length ≤ n → (∀ e ∈ l, e.1.length ≤ 32) → ((l.map fun e => (32 : UInt8) :: e.1).flatten).length ≤ 33 * n := by
    intro n
    induction n with
    | zero => intro l hl _; rw [List.length_eq_zero_iff.1 (by omega : l.length = 0)]; simp
    | succ n ih =>
      intro l hl hk
      cases l with
      | nil => simp
      | cons e r =>
        have h1 := ih r (by simpa using hl) (fun x hx => hk x (List.mem_cons_of_mem _ hx))
        have h2 := hk e (List.mem_cons_self ..)
        simp only [List.map_cons, List.flatten_cons, List.length_append, List.length_cons]
        omega
  have hs := h.size
  have := key 64 (m.take i) (by rw [List.length_take]; omega) (fun e he => (h.keys e (List.mem_of_mem_take he)).1)
  rw [List.length_append]
  simp only [List.length_cons, List.length_nil]
  omega
section
variable {w : World} {b : Nat} {v : Value} {m : Mp} {l : By} {lg : Bool}
set_option maxHeartbeats 4000000 in
theorem rline_list (h : RY w b v ⟨m, l, lg, false⟩) (hO : OkM m) (line : By) (hl : line.length ≤ 256) (hA : line = cLIST) : Calls Tryz.prog 25 #[PB b, .string (B line)] w (LineQ w b v l lg (listF m, m, false)) := by
  have q1 : ((B line).toList == cLIST) = true := B_q hA
  have HR : Hid _ := h
  have HO : Hid (OkM m) := hO
  have hms := hO.size
  obtain ⟨hlt, ⟨c0, -⟩, -⟩ := h.at_.four
  obtain ⟨a, c, rfl, h0, hc0, hg⟩ := h.pr.shape
  simp only at c0 h0 hg hc0
  clear h hO hA
  unfold LineQ
  go_enter Tryz.func25, Tryz.ntmps25
  go_wp2
  go_loopw [5, 6] (fun x y wr => ∃ i : Nat, y = .int .i64 (i : Int) ∧ x = .string (B (listF (m.take i))) ∧ Below w.heap.size w wr ∧ i ≤ m.length) (fun x y wr => m.length - natOf y)
  case atStart => exact ⟨0, rfl, rfl, Below.refl _ _, Nat.zero_le _⟩
  case round =>
    obtain ⟨i, rfl, rfl, hbw, hle⟩ := hrel
    have hsz := hbw.size
    have hi1 : ((i + 1 : Nat) : Int) = (i : Int) + 1 := by omega
    have c0' := later hbw c0
    have hltr : b < wr.heap.size := by omega
    have hz0 : (B (listF (m.take i))).size ≤ 2200 := by rw [B_size]; exact rlist_len m HO.out i
    by_cases hp : i < m.length
    · obtain ⟨e, he⟩ : ∃ e, m[i]? = some e := ⟨_, List.getElem?_eq_getElem hp⟩
      have hp' : (i : Int) < (m.length : Int) := by omega
      have hz1 : (B e.1).size ≤ 32 := by rw [B_size]; exact (HO.out.keys e (List.mem_of_getElem? he)).1
      have HL : Hid (B (listF (m.take i)) ++ (B [32] ++ B e.1) = B (listF (m.take (i + 1)))) := by
        show _ = _
        rw [B_app, B_app, list_take m i e he]
        rfl
      cases a with
      | none => have := (h0 rfl).1; rw [this] at hp; simp at hp
      | some ad =>
        obtain ⟨g, rfl, hgl⟩ := hg ad rfl
        obtain ⟨k0, k1⟩ := (HR.out.pr.later hbw).cell he
        have HB : Hid _ := hbw
        clear he h0 hg hbw
        generalize listF (m.take i) = y at hz0 HL
        go_wp2
        go_roundw
        case rel => exact ⟨i + 1, by rw [hi1], congrArg _ HL.out, HB.out, hp⟩
        case measure => simp only [natOf]; omega
    · have hp' : ¬ (i : Int) < (m.length : Int) := by omega
      have htk : m.take i = m := List.take_of_length_le (by omega)
      rw [htk] at hz0 ⊢
      have HF : Hid _ := And.intro (HR.out.later hbw) (Turn.of_below (S := fun j => j = b) hbw)
      clear hbw h0 hg
      go_wp2
      go_ret
      exact ⟨rfl, _, HF.out.1, HF.out.2, Lies.refl _ _⟩
set_option maxHeartbeats 4000000 in
theorem rline_count (h : RY w b v ⟨m, l, lg, false⟩) (hO : OkM m) (line : By) (hl : line.length ≤ 256) (hA : line = cCOUNT) : Calls Tryz.prog 25 #[PB b, .string (B line)] w (LineQ w b v l lg (bCOUNT ++ Go.Lib.itoa (m.length : Int), m, false)) := by
  have q1 : ((B line).toList == cLIST) = false := B_nq (by rw [hA]; decide)
  have q2 : ((B line).toList == cCOUNT) = true := B_q hA
  have HR : Hid _ := h
  have hms := hO.size
  have hdg := fun W => rdigits_any (m.length : Int) W (by omega) (by omega)
  have hlen := itoa_len (v := (m.length : Int)) (by omega) (by omega)
  generalize Go.Lib.itoa (m.length : Int) = y at hdg hlen ⊢
  have hz : (B y).size ≤ 10 := by rw [B_size]; exact hlen
  have hap : Hid (B bCOUNT ++ B y = B (bCOUNT ++ y)) := B_app _ _
  obtain ⟨hlt, ⟨c0, -⟩, -⟩ := h.at_.four
  obtain ⟨a, c, rfl, h0, hc0, hg⟩ := h.pr.shape
  simp only at c0
  clear h hO hA h0 hg hc0
  unfold LineQ
  go_enter Tryz.func25, Tryz.ntmps25
  go_wp2_with fail
  refine (hdg _).mono ?_
  rintro e w1 ⟨rfl, hb⟩
  go_wp2
  go_ret
  exact ⟨congrArg (fun x => Ending.returned (.string x)) hap.out, _, HR.out.later hb, Turn.of_below hb, Lies.refl _ _⟩
set_option maxHeartbeats 4000000 in
theorem rline_quit (h : RY w b v ⟨m, l, lg, false⟩) (hO : OkM m) (line : By) (hl : line.length ≤ 256) (hA : line = cQUIT) : Calls Tryz.prog 25 #[PB b, .string (B line)] w (LineQ w b v l lg (bBYE, m, true)) := by
  have q1 : ((B line).toList == cLIST) = false := B_nq (by rw [hA]; decide)
  have q2 : ((B line).toList == cCOUNT) = false := B_nq (by rw [hA]; decide)
  have q3 : ((B line).toList == cQUIT) = true := B_q hA
  have hfin : RY (w.setCell ⟨b, 3, none⟩ (.bool true)) b v ⟨m, l, lg, true⟩ := h.same rfl rfl rfl
  have HF : Hid _ := And.intro hfin (turn_set w b 3 (.bool true))
  obtain ⟨hlt, ⟨-, -, -, c3⟩, ⟨-, -, -, f3⟩⟩ := h.at_.four
  clear h hO hA hfin
  unfold LineQ
  go_enter Tryz.func25, Tryz.ntmps25
  go_wp2
  go_ret
  exact ⟨rfl, _, HF.out.1, HF.out.2, Lies.refl _ _⟩
set_option maxHeartbeats 16000000 in
theorem rline_rest (h : RY w b v ⟨m, l, lg, false⟩) (hO : OkM m) (line : By) (hl : line.length ≤ 256) (h1 : line ≠ cLIST) (h2 : line ≠ cCOUNT) (h3 : line ≠ cQUIT) : Calls Tryz.prog 25 #[PB b, .string (B line)] w (LineQ w b v l lg (lineR m (cutC 32 line) (cutC 32 (cutC 32 line).2.1))) := by
  have q1 : ((B line).toList == cLIST) = false := B_nq h1
  have q2 : ((B line).toList == cCOUNT) = false := B_nq h2
  have q3 : ((B line).toList == cQUIT) = false := B_nq h3
  have hl1 := cut_len 32 line
  have hl2 := cut_len 32 (cutC 32 line).2.1
  have hcut1 := fun W => rcut_any line W (by omega)
  have hcut2 := fun W => rcut_any (cutC 32 line).2.1 W (by omega)
  generalize cutC 32 line = cc at hl1 hl2 hcut1 hcut2 ⊢
  obtain ⟨c1, c2, cb⟩ := cc
  simp only at hl1 hl2 hcut1 hcut2 ⊢
  generalize cutC 32 c2 = dd at hl2 hcut2 ⊢
  obtain ⟨d1, d2, db⟩ := dd
  simp only at hl2 hcut2 ⊢
  have hname := fun W => rname_any d1 W (by omega)
  have hd2 : d2.length ≤ 256 := by omega
  have HR : Hid _ := h
  have HO : Hid (OkM m) := hO
  obtain ⟨R, hR⟩ : ∃ R, R = lineR m (c1, c2, cb) (d1, d2, db) := ⟨_, rfl⟩
  rw [← hR]
  have HG : Hid _ := hR
  clear hR h hO h1 h2 h3 hl1 hl2
  unfold LineQ
  go_enter Tryz.func25, Tryz.ntmps25
  go_wp2_with fail
  refine (hcut1 _).mono ?_
  rintro e w1 ⟨rfl, hb1⟩
  go_wp2_with fail
  refine (hcut2 _).mono ?_
  rintro e w2 ⟨rfl, hb2⟩
  have hbw0 := bt hb1 hb2
  clear hcut1 hcut2 hb1 hb2
  cases cb
  · have hadd : R = (bBAD, m, false) := HG.out.trans (by simp [lineR])
    clear HG
    subst hadd
    go_wp2
    go_ret
    exact ⟨rfl, _, HR.out.later hbw0, Turn.of_below hbw0, Lies.refl _ _⟩
  go_wp2_with fail
  refine (hname _).mono ?_
  rintro e w3 ⟨rfl, hb3⟩
  have hbw := bt hbw0 hb3
  clear hbw0 hb3 hname
  cases hk : okName d1
  · have hadd : R = (bBAD, m, false) := HG.out.trans (by simp [lineR, hk])
    clear HG
    subst hadd
    go_wp2
    go_ret
    exact ⟨rfl, _, HR.out.later hbw, Turn.of_below hbw, Lies.refl _ _⟩
  by_cases eGET : c1 = cGET
  · subst eGET
    have gGET : ((B cGET).toList == cGET) = true := B_q rfl
    have gDEL : ((B cGET).toList == cDEL) = false := B_nq (by decide)
    have gPUT : ((B cGET).toList == cPUT) = false := B_nq (by decide)
    have gADD : ((B cGET).toList == cADD) = false := B_nq (by decide)
    have gAPP : ((B cGET).toList == cAPP) = false := B_nq (by decide)
    cases db
    · have hadd : R = (getF m d1, m, false) := HG.out.trans (by simp [lineR, hk])
      clear HG
      subst hadd
      go_wp2_with fail
      refine (rone_get (HR.out.later hbw) HO.out d1).mono ?_
      rintro e w4 ⟨rfl, hb4⟩
      go_wp2
      go_ret
      exact ⟨rfl, _, (HR.out.later hbw).later hb4, Turn.of_below (bt hbw hb4), Lies.refl _ _⟩
    · have hadd : R = (bBAD, m, false) := HG.out.trans (by simp [lineR, hk])
      clear HG
      subst hadd
      go_wp2
      go_ret
      exact ⟨rfl, _, HR.out.later hbw, Turn.of_below hbw, Lies.refl _ _⟩
  by_cases eDEL : c1 = cDEL
  · subst eDEL
    have gGET : ((B cDEL).toList == cGET) = false := B_nq (by decide)
    have gDEL : ((B cDEL).toList == cDEL) = true := B_q rfl
    have gPUT : ((B cDEL).toList == cPUT) = false := B_nq (by decide)
    have gADD : ((B cDEL).toList == cADD) = false := B_nq (by decide)
    have gAPP : ((B cDEL).toList == cAPP) = false := B_nq (by decide)
    cases db
    · have hadd : R = ((dropF m d1).1, (dropF m d1).2, false) := HG.out.trans (by simp [lineR, hk])
      clear HG
      have hc4 := rone_del (HR.out.later hbw) HO.out d1
      go_wp2_with fail
      refine hc4.mono ?_
      rintro e w4 ⟨rfl, v4, r4, t4, l4⟩
      have HT : Hid _ := And.intro r4 (And.intro ((Turn.of_below (S := fun j => j = b) hbw).trans t4) (l4.le hbw.size))
      clear r4 t4 l4 hc4
      subst hadd
      go_wp2
      go_ret
      exact ⟨rfl, _, HT.out⟩
    · have hadd : R = (bBAD, m, false) := HG.out.trans (by simp [lineR, hk])
      clear HG
      subst hadd
      go_wp2
      go_ret
      exact ⟨rfl, _, HR.out.later hbw, Turn.of_below hbw, Lies.refl _ _⟩
  by_cases ePUT : c1 = cPUT
  · subst ePUT
    have gGET : ((B cPUT).toList == cGET) = false := B_nq (by decide)
    have gDEL : ((B cPUT).toList == cDEL) = false := B_nq (by decide)
    have gPUT : ((B cPUT).toList == cPUT) = true := B_q rfl
    have gADD : ((B cPUT).toList == cADD) = false := B_nq (by decide)
    have gAPP : ((B cPUT).toList == cAPP) = false := B_nq (by decide)
    cases db
    · have hadd : R = (bBAD, m, false) := HG.out.trans (by simp [lineR, hk])
      clear HG
      subst hadd
      go_wp2
      go_ret
      exact ⟨rfl, _, HR.out.later hbw, Turn.of_below hbw, Lies.refl _ _⟩
    · have hadd : R = ((keepF m d1 d2 bOK).1, (keepF m d1 d2 bOK).2, false) := HG.out.trans (by simp [lineR, hk])
      rw [keep_set] at hadd
      clear HG
      have hc4 := rset_any (HR.out.later hbw) HO.out d1 d2
      go_wp2_with fail
      refine hc4.mono ?_
      rintro e w4 ⟨rfl, v4, r4, t4, l4⟩
      have HT : Hid _ := And.intro r4 (And.intro ((Turn.of_below (S := fun j => j = b) hbw).trans t4) (l4.le hbw.size))
      clear r4 t4 l4 hc4
      have HAD : Hid _ := hadd
      clear hadd
      obtain ⟨q, hq⟩ : ∃ q, q = setF m d1 d2 := ⟨_, rfl⟩
      rw [← hq] at HAD HT ⊢
      clear hq
      obtain ⟨f, m9⟩ := q
      cases f
      · have hadd : R = (bFULL, m9, false) := HAD.out
        clear HAD
        subst hadd
        go_wp2
        go_ret
        exact ⟨rfl, _, HT.out⟩
      · have hadd : R = (bOK, m9, false) := HAD.out
        clear HAD
        subst hadd
        go_wp2
        go_ret
        exact ⟨rfl, _, HT.out⟩
  by_cases eADD : c1 = cADD
  · subst eADD
    have gGET : ((B cADD).toList == cGET) = false := B_nq (by decide)
    have gDEL : ((B cADD).toList == cDEL) = false := B_nq (by decide)
    have gPUT : ((B cADD).toList == cPUT) = false := B_nq (by decide)
    have gADD : ((B cADD).toList == cADD) = true := B_q rfl
    have gAPP : ((B cADD).toList == cAPP) = false := B_nq (by decide)
    cases db
    · have hadd : R = (bBAD, m, false) := HG.out.trans (by simp [lineR, hk])
      clear HG
      subst hadd
      go_wp2
      go_ret
      exact ⟨rfl, _, HR.out.later hbw, Turn.of_below hbw, Lies.refl _ _⟩
    · have hadd : R = ((addF m d1 d2).1, (addF m d1 d2).2, false) := HG.out.trans (by simp [lineR, hk])
      clear HG
      have hc4 := radd_any (HR.out.later hbw) HO.out d1 d2 (by omega)
      go_wp2_with fail
      refine hc4.mono ?_
      rintro e w4 ⟨rfl, v4, r4, t4, l4⟩
      have HT : Hid _ := And.intro r4 (And.intro ((Turn.of_below (S := fun j => j = b) hbw).trans t4) (l4.le hbw.size))
      clear r4 t4 l4 hc4
      subst hadd
      go_wp2
      go_ret
      exact ⟨rfl, _, HT.out⟩
  by_cases eAPP : c1 = cAPP
  · subst eAPP
    have gGET : ((B cAPP).toList == cGET) = false := B_nq (by decide)
    have gDEL : ((B cAPP).toList == cDEL) = false := B_nq (by decide)
    have gPUT : ((B cAPP).toList == cPUT) = false := B_nq (by decide)
    have gADD : ((B cAPP).toList == cADD) = false := B_nq (by decide)
    have gAPP : ((B cAPP).toList == cAPP) = true := B_q rfl
    cases db
    · have hadd : R = (bBAD, m, false) := HG.out.trans (by simp [lineR, hk])
      clear HG
      subst hadd
      go_wp2
      go_ret
      exact ⟨rfl, _, HR.out.later hbw, Turn.of_below hbw, Lies.refl _ _⟩
    · have hadd : R = ((growF m d1 d2).1, (growF m d1 d2).2, false) := HG.out.trans (by simp [lineR, hk])
      clear HG
      have hc4 := rapp_any (HR.out.later hbw) HO.out d1 d2 (by omega)
      go_wp2_with fail
      refine hc4.mono ?_
      rintro e w4 ⟨rfl, v4, r4, t4, l4⟩
      have HT : Hid _ := And.intro r4 (And.intro ((Turn.of_below (S := fun j => j = b) hbw).trans t4) (l4.le hbw.size))
      clear r4 t4 l4 hc4
      subst hadd
      go_wp2
      go_ret
      exact ⟨rfl, _, HT.out⟩
  have gGET : ((B c1).toList == cGET) = false := B_nq eGET
  have gDEL : ((B c1).toList == cDEL) = false := B_nq eDEL
  have gPUT : ((B c1).toList == cPUT) = false := B_nq ePUT
  have gADD : ((B c1).toList == cADD) = false := B_nq eADD
  have gAPP : ((B c1).toList == cAPP) = false := B_nq eAPP
  cases db
  · have hadd : R = (bBAD, m, false) := HG.out.trans (by simp [lineR, hk, eGET, eDEL, ePUT, eADD, eAPP])
    clear HG
    subst hadd
    go_wp2
    go_ret
    exact ⟨rfl, _, HR.out.later hbw, Turn.of_below hbw, Lies.refl _ _⟩
  · have hadd : R = (bBAD, m, false) := HG.out.trans (by simp [lineR, hk, eGET, eDEL, ePUT, eADD, eAPP])
    clear HG
    subst hadd
    go_wp2
    go_ret
    exact ⟨rfl, _, HR.out.later hbw, Turn.of_below hbw, Lies.refl _ _⟩
end
theorem rline_any {w : World} {b : Nat} {v : Value} {m : Mp} {l : By} {lg : Bool} (h : RY w b v ⟨m, l, lg, false⟩) (hO : OkM m) (line : By) (hl : line.length ≤ 256) : Calls Tryz.prog 25 #[PB b, .string (B line)] w (LineQ w b v l lg (ansF m line)) := by
  by_cases h1 : line = cLIST
  · have : ansF m line = (listF m, m, false) := by rw [h1]; rfl
    rw [this]
    exact rline_list h hO line hl h1
  by_cases h2 : line = cCOUNT
  · have : ansF m line = (bCOUNT ++ Go.Lib.itoa (m.length : Int), m, false) := by rw [h2]; rfl
    rw [this]
    exact rline_count h hO line hl h2
  by_cases h3 : line = cQUIT
  · have : ansF m line = (bBYE, m, true) := by rw [h3]; rfl
    rw [this]
    exact rline_quit h hO line hl h3
  rw [ans_line m line h1 h2 h3]
  exact rline_rest h hO line hl h1 h2 h3
end Go.Proofs.YtadmpdeegnppjaaGreatDoor
