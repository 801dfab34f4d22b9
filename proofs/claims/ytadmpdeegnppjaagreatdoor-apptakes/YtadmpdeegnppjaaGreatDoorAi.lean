/- read: a line as its words. -/
import Derived.Test.YtadmpdeegnppjaaGreatDoorAh
import Derived.Handy
import Derived.Deep.RegionWith
namespace Go.Proofs.YtadmpdeegnppjaaGreatDoor
open Go.RowKit Go.Maps Go.Shelf Go.Lib
set_option maxRecDepth 100000
set_option linter.unusedVariables false
set_option linter.unusedSimpArgs false


abbrev put3 (W : World) (b : Nat) (u0 u1 u2 : Value) : World := ((W.setCell ⟨b, 0, none⟩ u0).setCell ⟨b, 1, none⟩ u1).setCell ⟨b, 2, none⟩ u2
theorem At.put3 {W : World} {b : Nat} {a0 a1 a2 : Value} (h : At W b #[a0, a1, a2]) (u0 u1 u2 : Value) : At (put3 W b u0 u1 u2) b #[u0, u1, u2] ∧ Turn (fun k => k = b) W (put3 W b u0 u1 u2) :=
  ⟨((h.set 0 u0).set 1 u1).set 2 u2, ((turn_set _ _ _ _).trans (turn_set _ _ _ _)).trans (turn_set _ _ _ _)⟩
theorem At.three {W : World} {b : Nat} {a0 a1 a2 : Value} (h : At W b #[a0, a1, a2]) : W.cell? ⟨b, 0, none⟩ = some a0 ∧ W.cell? ⟨b, 1, none⟩ = some a1 ∧ W.cell? ⟨b, 2, none⟩ = some a2 ∧ W.frozen? ⟨b, 0, none⟩ = false ∧ W.frozen? ⟨b, 1, none⟩ = false ∧ W.frozen? ⟨b, 2, none⟩ = false :=
  ⟨(h.2 0 _ rfl).1, (h.2 1 _ rfl).1, (h.2 2 _ rfl).1, (h.2 0 _ rfl).2, (h.2 1 _ rfl).2, (h.2 2 _ rfl).2⟩
theorem At.range5 {W : World} {b : Nat} {vs : Array Value} (h : At W b vs) : W.rangeAt b 0 vs.toList := by
  intro j v hj
  rw [Nat.zero_add]
  exact (h.2 j v (by simpa using hj)).1
theorem sizeC : (Tryz.prog.info? 77).map (·.size) = some 3 := by kernel_rfl
theorem ret_cmd {fn : Func} {i j : Nat} (hres : fn.results = #[.cell i 77, .tmp j]) {tmps : Array Value} {W : World} {b : Nat} {vs : Array Value} {x : Value} (hA : At W b vs) (hs : vs.size = 3) (hi : tmps.getD i undef = .pointer (some ⟨b, 0, none⟩)) (hj : tmps.getD j undef = x) : (results fn tmps).run Tryz.prog W = .ok (.tuple #[.agg vs, x]) W := by
  have hl := run_loadVar_mid (P := Tryz.prog) W b 0 77 vs.toList _ hA.range5 Tryz.underlying77 rfl (by rw [show vs.toList.length = 3 by simpa using hs]; exact sizeC)
  rw [Array.getD_eq_getD_getElem?] at hi hj
  unfold results
  rw [hres]
  simp [hi, hj, asAddr, hl]
theorem belU {w w' : World} (h : Below w.drew.heap.size w.drew w') : Below w.heap.size w w' := bel_undrew h
/-- What read hands back for a line. -/
def ReadQ (line : By) (w : World) (e : Ending) (w' : World) : Prop :=
  (∃ x y z : By, e = .returned (.tuple #[.agg #[.string (B x), .string (B y), .string (B z)], .bool (readF line).isSome]) ∧ ∀ v k t, readF line = some (v, k, t) → x = v ∧ y = k ∧ z = t) ∧ Below w.heap.size w w'
theorem B_q {p l : By} (h : p = l) : ((B p).toList == l) = true := by rw [B_tl]; exact beq_iff_eq.2 h
theorem B_nq {p l : By} (h : p ≠ l) : ((B p).toList == l) = false := by rw [B_tl]; exact beq_eq_false_iff_ne.2 h
section
variable {w : World}
set_option maxHeartbeats 2000000 in
theorem read_g3_list (hE : Env w) (line p r : By) (m : Bool) (hc : cutC 32 line = (p, r, m)) (hl : line.length ≤ 1000000) (hv : p = cLIST) :
    Calls Tryz.prog 44 #[.string (B line)] w fun e w' => (e = .returned (.tuple #[.agg #[.string (B p), .string (B r), .string ⟨#[]⟩], .bool (!m)])) ∧ Below w.heap.size w w' := by
  have q0 := bel1 w (.cells #[.string ⟨#[]⟩, .string ⟨#[]⟩, .string ⟨#[]⟩] 77)
  have hA0 := At.box w #[.string ⟨#[]⟩, .string ⟨#[]⟩, .string ⟨#[]⟩] 77
  have hrl : r.length ≤ 1000000 := by have := cut_len 32 line; rw [hc] at this; simp only at this; omega
  have hcut := cut_any (hE.later q0) line 32 (by omega)
  rw [hc] at hcut
  have HE : Hid (Env w) := hE
  clear hE hc
  have e0 : ((B p).toList == cPUT) = false := B_nq (by subst hv; decide)
  have e1 : ((B p).toList == cAPP) = false := B_nq (by subst hv; decide)
  have e2 : ((B p).toList == cADD) = false := B_nq (by subst hv; decide)
  have e3 : ((B p).toList == cGET) = false := B_nq (by subst hv; decide)
  have e4 : ((B p).toList == cDEL) = false := B_nq (by subst hv; decide)
  have e5 : ((B p).toList == cLIST) = true := B_q hv
  clear hv
  go_enter Tryz.func44, Tryz.ntmps44
  go_wp2_with fail
  refine hcut.mono ?_
  rintro e w1 ⟨rfl, hb1⟩
  clear hcut
  have hA1 := hA0.later hb1
  have hw1 := bt q0 hb1
  obtain ⟨c0, c1, c2, f0, f1, f2⟩ := hA1.three
  obtain ⟨hA2, ht2⟩ := hA1.put3 (.string (B p)) (.string (B r)) (.string ⟨#[]⟩)
  have hR1 := hA1.1
  have hE2 : Env (put3 w1 w.heap.size (.string (B p)) (.string (B r)) (.string ⟨#[]⟩)) := (HE.out.later hw1).turn ht2 (fun k hk => by rw [hk]; exact HE.out.big)
  have hw2 : Below w.heap.size w (put3 w1 w.heap.size (.string (B p)) (.string (B r)) (.string ⟨#[]⟩)) := hw1.trans (ht2.below hw1.size (fun k hk e => by omega))
  have K2 : Hid _ := And.intro hA2 (And.intro hE2 hw2)
  clear hA2 hE2 hw2 ht2 hA1 hA0 hb1 hw1 q0 HE
  obtain ⟨d0, d1, d2, g0, g1, g2⟩ := K2.out.1.three
  obtain ⟨hA3, ht3⟩ := K2.out.1.put3 (.string (B p)) (.string (B r)) (.string ⟨#[]⟩)
  have K3 : Hid _ := And.intro hA3 (K2.out.2.2.trans (ht3.below K2.out.2.2.size (fun k hk e => by omega)))
  clear hA3 ht3 K2
  go_wp2
  refine bodyPost_ret (ret_cmd (i := 2) (j := 3) Tryz.results44 K3.out.1 rfl rfl rfl) rfl ⟨rfl, K3.out.2⟩
set_option maxHeartbeats 2000000 in
theorem read_g3_count (hE : Env w) (line p r : By) (m : Bool) (hc : cutC 32 line = (p, r, m)) (hl : line.length ≤ 1000000) (hv : p = cCOUNT) :
    Calls Tryz.prog 44 #[.string (B line)] w fun e w' => (e = .returned (.tuple #[.agg #[.string (B p), .string (B r), .string ⟨#[]⟩], .bool (!m)])) ∧ Below w.heap.size w w' := by
  have q0 := bel1 w (.cells #[.string ⟨#[]⟩, .string ⟨#[]⟩, .string ⟨#[]⟩] 77)
  have hA0 := At.box w #[.string ⟨#[]⟩, .string ⟨#[]⟩, .string ⟨#[]⟩] 77
  have hrl : r.length ≤ 1000000 := by have := cut_len 32 line; rw [hc] at this; simp only at this; omega
  have hcut := cut_any (hE.later q0) line 32 (by omega)
  rw [hc] at hcut
  have HE : Hid (Env w) := hE
  clear hE hc
  have e0 : ((B p).toList == cPUT) = false := B_nq (by subst hv; decide)
  have e1 : ((B p).toList == cAPP) = false := B_nq (by subst hv; decide)
  have e2 : ((B p).toList == cADD) = false := B_nq (by subst hv; decide)
  have e3 : ((B p).toList == cGET) = false := B_nq (by subst hv; decide)
  have e4 : ((B p).toList == cDEL) = false := B_nq (by subst hv; decide)
  have e5 : ((B p).toList == cLIST) = false := B_nq (by subst hv; decide)
  have e6 : ((B p).toList == cCOUNT) = true := B_q hv
  clear hv
  go_enter Tryz.func44, Tryz.ntmps44
  go_wp2_with fail
  refine hcut.mono ?_
  rintro e w1 ⟨rfl, hb1⟩
  clear hcut
  have hA1 := hA0.later hb1
  have hw1 := bt q0 hb1
  obtain ⟨c0, c1, c2, f0, f1, f2⟩ := hA1.three
  obtain ⟨hA2, ht2⟩ := hA1.put3 (.string (B p)) (.string (B r)) (.string ⟨#[]⟩)
  have hR1 := hA1.1
  have hE2 : Env (put3 w1 w.heap.size (.string (B p)) (.string (B r)) (.string ⟨#[]⟩)) := (HE.out.later hw1).turn ht2 (fun k hk => by rw [hk]; exact HE.out.big)
  have hw2 : Below w.heap.size w (put3 w1 w.heap.size (.string (B p)) (.string (B r)) (.string ⟨#[]⟩)) := hw1.trans (ht2.below hw1.size (fun k hk e => by omega))
  have K2 : Hid _ := And.intro hA2 (And.intro hE2 hw2)
  clear hA2 hE2 hw2 ht2 hA1 hA0 hb1 hw1 q0 HE
  obtain ⟨d0, d1, d2, g0, g1, g2⟩ := K2.out.1.three
  obtain ⟨hA3, ht3⟩ := K2.out.1.put3 (.string (B p)) (.string (B r)) (.string ⟨#[]⟩)
  have K3 : Hid _ := And.intro hA3 (K2.out.2.2.trans (ht3.below K2.out.2.2.size (fun k hk e => by omega)))
  clear hA3 ht3 K2
  go_wp2
  refine bodyPost_ret (ret_cmd (i := 2) (j := 3) Tryz.results44 K3.out.1 rfl rfl rfl) rfl ⟨rfl, K3.out.2⟩
set_option maxHeartbeats 2000000 in
theorem read_g3_quit (hE : Env w) (line p r : By) (m : Bool) (hc : cutC 32 line = (p, r, m)) (hl : line.length ≤ 1000000) (hv : p = cQUIT) :
    Calls Tryz.prog 44 #[.string (B line)] w fun e w' => (e = .returned (.tuple #[.agg #[.string (B p), .string (B r), .string ⟨#[]⟩], .bool (!m)])) ∧ Below w.heap.size w w' := by
  have q0 := bel1 w (.cells #[.string ⟨#[]⟩, .string ⟨#[]⟩, .string ⟨#[]⟩] 77)
  have hA0 := At.box w #[.string ⟨#[]⟩, .string ⟨#[]⟩, .string ⟨#[]⟩] 77
  have hrl : r.length ≤ 1000000 := by have := cut_len 32 line; rw [hc] at this; simp only at this; omega
  have hcut := cut_any (hE.later q0) line 32 (by omega)
  rw [hc] at hcut
  have HE : Hid (Env w) := hE
  clear hE hc
  have e0 : ((B p).toList == cPUT) = false := B_nq (by subst hv; decide)
  have e1 : ((B p).toList == cAPP) = false := B_nq (by subst hv; decide)
  have e2 : ((B p).toList == cADD) = false := B_nq (by subst hv; decide)
  have e3 : ((B p).toList == cGET) = false := B_nq (by subst hv; decide)
  have e4 : ((B p).toList == cDEL) = false := B_nq (by subst hv; decide)
  have e5 : ((B p).toList == cLIST) = false := B_nq (by subst hv; decide)
  have e6 : ((B p).toList == cCOUNT) = false := B_nq (by subst hv; decide)
  have e7 : ((B p).toList == cQUIT) = true := B_q hv
  clear hv
  go_enter Tryz.func44, Tryz.ntmps44
  go_wp2_with fail
  refine hcut.mono ?_
  rintro e w1 ⟨rfl, hb1⟩
  clear hcut
  have hA1 := hA0.later hb1
  have hw1 := bt q0 hb1
  obtain ⟨c0, c1, c2, f0, f1, f2⟩ := hA1.three
  obtain ⟨hA2, ht2⟩ := hA1.put3 (.string (B p)) (.string (B r)) (.string ⟨#[]⟩)
  have hR1 := hA1.1
  have hE2 : Env (put3 w1 w.heap.size (.string (B p)) (.string (B r)) (.string ⟨#[]⟩)) := (HE.out.later hw1).turn ht2 (fun k hk => by rw [hk]; exact HE.out.big)
  have hw2 : Below w.heap.size w (put3 w1 w.heap.size (.string (B p)) (.string (B r)) (.string ⟨#[]⟩)) := hw1.trans (ht2.below hw1.size (fun k hk e => by omega))
  have K2 : Hid _ := And.intro hA2 (And.intro hE2 hw2)
  clear hA2 hE2 hw2 ht2 hA1 hA0 hb1 hw1 q0 HE
  obtain ⟨d0, d1, d2, g0, g1, g2⟩ := K2.out.1.three
  obtain ⟨hA3, ht3⟩ := K2.out.1.put3 (.string (B p)) (.string (B r)) (.string ⟨#[]⟩)
  have K3 : Hid _ := And.intro hA3 (K2.out.2.2.trans (ht3.below K2.out.2.2.size (fun k hk e => by omega)))
  clear hA3 ht3 K2
  go_wp2
  refine bodyPost_ret (ret_cmd (i := 2) (j := 3) Tryz.results44 K3.out.1 rfl rfl rfl) rfl ⟨rfl, K3.out.2⟩
set_option maxHeartbeats 2000000 in
theorem read_g0 (hE : Env w) (line p r : By) (m : Bool) (hc : cutC 32 line = (p, r, m)) (hl : line.length ≤ 1000000) (h0 : p ≠ cPUT) (h1 : p ≠ cAPP) (h2 : p ≠ cADD) (h3 : p ≠ cGET) (h4 : p ≠ cDEL) (h5 : p ≠ cLIST) (h6 : p ≠ cCOUNT) (h7 : p ≠ cQUIT) :
    Calls Tryz.prog 44 #[.string (B line)] w fun e w' => (e = .returned (.tuple #[.agg #[.string (B p), .string (B r), .string ⟨#[]⟩], .bool (false)])) ∧ Below w.heap.size w w' := by
  have q0 := bel1 w (.cells #[.string ⟨#[]⟩, .string ⟨#[]⟩, .string ⟨#[]⟩] 77)
  have hA0 := At.box w #[.string ⟨#[]⟩, .string ⟨#[]⟩, .string ⟨#[]⟩] 77
  have hrl : r.length ≤ 1000000 := by have := cut_len 32 line; rw [hc] at this; simp only at this; omega
  have hcut := cut_any (hE.later q0) line 32 (by omega)
  rw [hc] at hcut
  have HE : Hid (Env w) := hE
  clear hE hc
  have e0 : ((B p).toList == cPUT) = false := B_nq h0
  have e1 : ((B p).toList == cAPP) = false := B_nq h1
  have e2 : ((B p).toList == cADD) = false := B_nq h2
  have e3 : ((B p).toList == cGET) = false := B_nq h3
  have e4 : ((B p).toList == cDEL) = false := B_nq h4
  have e5 : ((B p).toList == cLIST) = false := B_nq h5
  have e6 : ((B p).toList == cCOUNT) = false := B_nq h6
  have e7 : ((B p).toList == cQUIT) = false := B_nq h7
  clear h0 h1 h2 h3 h4 h5 h6 h7
  go_enter Tryz.func44, Tryz.ntmps44
  go_wp2_with fail
  refine hcut.mono ?_
  rintro e w1 ⟨rfl, hb1⟩
  clear hcut
  have hA1 := hA0.later hb1
  have hw1 := bt q0 hb1
  obtain ⟨c0, c1, c2, f0, f1, f2⟩ := hA1.three
  obtain ⟨hA2, ht2⟩ := hA1.put3 (.string (B p)) (.string (B r)) (.string ⟨#[]⟩)
  have hR1 := hA1.1
  have hE2 : Env (put3 w1 w.heap.size (.string (B p)) (.string (B r)) (.string ⟨#[]⟩)) := (HE.out.later hw1).turn ht2 (fun k hk => by rw [hk]; exact HE.out.big)
  have hw2 : Below w.heap.size w (put3 w1 w.heap.size (.string (B p)) (.string (B r)) (.string ⟨#[]⟩)) := hw1.trans (ht2.below hw1.size (fun k hk e => by omega))
  have K2 : Hid _ := And.intro hA2 (And.intro hE2 hw2)
  clear hA2 hE2 hw2 ht2 hA1 hA0 hb1 hw1 q0 HE
  obtain ⟨d0, d1, d2, g0, g1, g2⟩ := K2.out.1.three
  obtain ⟨hA3, ht3⟩ := K2.out.1.put3 (.string (B p)) (.string (B r)) (.string ⟨#[]⟩)
  have K3 : Hid _ := And.intro hA3 (K2.out.2.2.trans (ht3.below K2.out.2.2.size (fun k hk e => by omega)))
  clear hA3 ht3 K2
  go_wp2
  refine bodyPost_ret (ret_cmd (i := 2) (j := 3) Tryz.results44 K3.out.1 rfl rfl rfl) rfl ⟨rfl, K3.out.2⟩
set_option maxHeartbeats 2000000 in
theorem read_g2_get (hE : Env w) (line p r : By) (m : Bool) (hc : cutC 32 line = (p, r, m)) (hl : line.length ≤ 1000000) (hv : p = cGET) :
    Calls Tryz.prog 44 #[.string (B line)] w fun e w' => (e = .returned (.tuple #[.agg #[.string (B p), .string (B r), .string ⟨#[]⟩], .bool (okName r)])) ∧ Below w.heap.size w w' := by
  have q0 := bel1 w (.cells #[.string ⟨#[]⟩, .string ⟨#[]⟩, .string ⟨#[]⟩] 77)
  have hA0 := At.box w #[.string ⟨#[]⟩, .string ⟨#[]⟩, .string ⟨#[]⟩] 77
  have hrl : r.length ≤ 1000000 := by have := cut_len 32 line; rw [hc] at this; simp only at this; omega
  have hcut := cut_any (hE.later q0) line 32 (by omega)
  rw [hc] at hcut
  have HE : Hid (Env w) := hE
  clear hE hc
  have e0 : ((B p).toList == cPUT) = false := B_nq (by subst hv; decide)
  have e1 : ((B p).toList == cAPP) = false := B_nq (by subst hv; decide)
  have e2 : ((B p).toList == cADD) = false := B_nq (by subst hv; decide)
  have e3 : ((B p).toList == cGET) = true := B_q hv
  clear hv
  go_enter Tryz.func44, Tryz.ntmps44
  go_wp2_with fail
  refine hcut.mono ?_
  rintro e w1 ⟨rfl, hb1⟩
  clear hcut
  have hA1 := hA0.later hb1
  have hw1 := bt q0 hb1
  obtain ⟨c0, c1, c2, f0, f1, f2⟩ := hA1.three
  obtain ⟨hA2, ht2⟩ := hA1.put3 (.string (B p)) (.string (B r)) (.string ⟨#[]⟩)
  have hR1 := hA1.1
  have hE2 : Env (put3 w1 w.heap.size (.string (B p)) (.string (B r)) (.string ⟨#[]⟩)) := (HE.out.later hw1).turn ht2 (fun k hk => by rw [hk]; exact HE.out.big)
  have hw2 : Below w.heap.size w (put3 w1 w.heap.size (.string (B p)) (.string (B r)) (.string ⟨#[]⟩)) := hw1.trans (ht2.below hw1.size (fun k hk e => by omega))
  have K2 : Hid _ := And.intro hA2 (And.intro hE2 hw2)
  clear hA2 hE2 hw2 ht2 hA1 hA0 hb1 hw1 q0 HE
  obtain ⟨d0, d1, d2, g0, g1, g2⟩ := K2.out.1.three
  have K5 : Hid _ := And.intro K2.out.1 K2.out.2.2
  go_wp2
  go_region_with (go_at_call 61; refine (name_any r _ hrl).mono ?_; rintro e w9 ⟨rfl, hb8⟩; have hb9 := belU hb8; clear hb8; obtain ⟨k0, k1, k2, l0, l1, l2⟩ := (K5.out.1.later hb9).three)
  all_goals
    go_wp2
    refine bodyPost_ret (ret_cmd (i := 2) (j := 3) Tryz.results44 ((K5.out.1.later hb9).put3 _ _ _).1 rfl rfl rfl) rfl ⟨rfl, (K5.out.2.trans (hb9.mono K5.out.2.size)).trans ((((K5.out.1.later hb9).put3 _ _ _).2).below (K5.out.2.trans (hb9.mono K5.out.2.size)).size (fun k hk e => by omega))⟩
set_option maxHeartbeats 2000000 in
theorem read_g2_del (hE : Env w) (line p r : By) (m : Bool) (hc : cutC 32 line = (p, r, m)) (hl : line.length ≤ 1000000) (hv : p = cDEL) :
    Calls Tryz.prog 44 #[.string (B line)] w fun e w' => (e = .returned (.tuple #[.agg #[.string (B p), .string (B r), .string ⟨#[]⟩], .bool (okName r)])) ∧ Below w.heap.size w w' := by
  have q0 := bel1 w (.cells #[.string ⟨#[]⟩, .string ⟨#[]⟩, .string ⟨#[]⟩] 77)
  have hA0 := At.box w #[.string ⟨#[]⟩, .string ⟨#[]⟩, .string ⟨#[]⟩] 77
  have hrl : r.length ≤ 1000000 := by have := cut_len 32 line; rw [hc] at this; simp only at this; omega
  have hcut := cut_any (hE.later q0) line 32 (by omega)
  rw [hc] at hcut
  have HE : Hid (Env w) := hE
  clear hE hc
  have e0 : ((B p).toList == cPUT) = false := B_nq (by subst hv; decide)
  have e1 : ((B p).toList == cAPP) = false := B_nq (by subst hv; decide)
  have e2 : ((B p).toList == cADD) = false := B_nq (by subst hv; decide)
  have e3 : ((B p).toList == cGET) = false := B_nq (by subst hv; decide)
  have e4 : ((B p).toList == cDEL) = true := B_q hv
  clear hv
  go_enter Tryz.func44, Tryz.ntmps44
  go_wp2_with fail
  refine hcut.mono ?_
  rintro e w1 ⟨rfl, hb1⟩
  clear hcut
  have hA1 := hA0.later hb1
  have hw1 := bt q0 hb1
  obtain ⟨c0, c1, c2, f0, f1, f2⟩ := hA1.three
  obtain ⟨hA2, ht2⟩ := hA1.put3 (.string (B p)) (.string (B r)) (.string ⟨#[]⟩)
  have hR1 := hA1.1
  have hE2 : Env (put3 w1 w.heap.size (.string (B p)) (.string (B r)) (.string ⟨#[]⟩)) := (HE.out.later hw1).turn ht2 (fun k hk => by rw [hk]; exact HE.out.big)
  have hw2 : Below w.heap.size w (put3 w1 w.heap.size (.string (B p)) (.string (B r)) (.string ⟨#[]⟩)) := hw1.trans (ht2.below hw1.size (fun k hk e => by omega))
  have K2 : Hid _ := And.intro hA2 (And.intro hE2 hw2)
  clear hA2 hE2 hw2 ht2 hA1 hA0 hb1 hw1 q0 HE
  obtain ⟨d0, d1, d2, g0, g1, g2⟩ := K2.out.1.three
  have K5 : Hid _ := And.intro K2.out.1 K2.out.2.2
  go_wp2
  go_region_with (go_at_call 61; refine (name_any r _ hrl).mono ?_; rintro e w9 ⟨rfl, hb8⟩; have hb9 := belU hb8; clear hb8; obtain ⟨k0, k1, k2, l0, l1, l2⟩ := (K5.out.1.later hb9).three)
  all_goals
    go_wp2
    refine bodyPost_ret (ret_cmd (i := 2) (j := 3) Tryz.results44 ((K5.out.1.later hb9).put3 _ _ _).1 rfl rfl rfl) rfl ⟨rfl, (K5.out.2.trans (hb9.mono K5.out.2.size)).trans ((((K5.out.1.later hb9).put3 _ _ _).2).below (K5.out.2.trans (hb9.mono K5.out.2.size)).size (fun k hk e => by omega))⟩
set_option maxHeartbeats 2000000 in
theorem read_g1f_put (hE : Env w) (line p r : By) (m : Bool) (hc : cutC 32 line = (p, r, m)) (hl : line.length ≤ 1000000) (hv : p = cPUT) (n t : By) (hc2 : cutC 32 r = (n, t, false)) :
    Calls Tryz.prog 44 #[.string (B line)] w fun e w' => (e = .returned (.tuple #[.agg #[.string (B p), .string (B n), .string (B t)], .bool (false)])) ∧ Below w.heap.size w w' := by
  have q0 := bel1 w (.cells #[.string ⟨#[]⟩, .string ⟨#[]⟩, .string ⟨#[]⟩] 77)
  have hA0 := At.box w #[.string ⟨#[]⟩, .string ⟨#[]⟩, .string ⟨#[]⟩] 77
  have hrl : r.length ≤ 1000000 := by have := cut_len 32 line; rw [hc] at this; simp only at this; omega
  have hcut := cut_any (hE.later q0) line 32 (by omega)
  rw [hc] at hcut
  have HE : Hid (Env w) := hE
  clear hE hc
  have e0 : ((B p).toList == cPUT) = true := B_q hv
  clear hv
  go_enter Tryz.func44, Tryz.ntmps44
  go_wp2_with fail
  refine hcut.mono ?_
  rintro e w1 ⟨rfl, hb1⟩
  clear hcut
  have hA1 := hA0.later hb1
  have hw1 := bt q0 hb1
  obtain ⟨c0, c1, c2, f0, f1, f2⟩ := hA1.three
  obtain ⟨hA2, ht2⟩ := hA1.put3 (.string (B p)) (.string (B r)) (.string ⟨#[]⟩)
  have hR1 := hA1.1
  have hE2 : Env (put3 w1 w.heap.size (.string (B p)) (.string (B r)) (.string ⟨#[]⟩)) := (HE.out.later hw1).turn ht2 (fun k hk => by rw [hk]; exact HE.out.big)
  have hw2 : Below w.heap.size w (put3 w1 w.heap.size (.string (B p)) (.string (B r)) (.string ⟨#[]⟩)) := hw1.trans (ht2.below hw1.size (fun k hk e => by omega))
  have K2 : Hid _ := And.intro hA2 (And.intro hE2 hw2)
  clear hA2 hE2 hw2 ht2 hA1 hA0 hb1 hw1 q0 HE
  obtain ⟨d0, d1, d2, g0, g1, g2⟩ := K2.out.1.three
  have hcut2 := cut_any K2.out.2.1 r 32 (by omega)
  rw [hc2] at hcut2
  go_wp2_with fail
  refine hcut2.mono ?_
  rintro e w3 ⟨rfl, hb3⟩
  clear hcut2
  have hA3 := K2.out.1.later hb3
  have hw3 := K2.out.2.2.trans (hb3.mono K2.out.2.2.size)
  have hA4 := (hA3.set 1 (.string (B n))).set 2 (.string (B t))
  have ht4 : Turn (fun k => k = w.heap.size) w3 _ := (turn_set w3 w.heap.size 1 (.string (B n))).trans (turn_set _ w.heap.size 2 (.string (B t)))
  have hw4 := hw3.trans (ht4.below hw3.size (fun k hk e => by omega))
  obtain ⟨i0, i1, i2, j0, j1, j2⟩ := hA3.three
  obtain ⟨m0, m1, m2, o0, o1, o2⟩ := At.three hA4
  have hA4' : At ((w3.setCell ⟨w.heap.size, 1, none⟩ (.string (B n))).setCell ⟨w.heap.size, 2, none⟩ (.string (B t))) w.heap.size #[.string (B p), .string (B n), .string (B t)] := hA4
  have K4 : Hid _ := And.intro hA4' hw4
  clear hA3 hw3 hA4 hA4' ht4 hw4 hb3 K2
  go_wp2
  refine bodyPost_ret (ret_cmd (i := 2) (j := 3) Tryz.results44 (K4.out.1.put3 _ _ _).1 rfl rfl rfl) rfl ⟨rfl, K4.out.2.trans ((K4.out.1.put3 _ _ _).2.below K4.out.2.size (fun k hk e => by omega))⟩
set_option maxHeartbeats 2000000 in
theorem read_g1t_put (hE : Env w) (line p r : By) (m : Bool) (hc : cutC 32 line = (p, r, m)) (hl : line.length ≤ 1000000) (hv : p = cPUT) (n t : By) (hc2 : cutC 32 r = (n, t, true)) :
    Calls Tryz.prog 44 #[.string (B line)] w fun e w' => (e = .returned (.tuple #[.agg #[.string (B p), .string (B n), .string (B t)], .bool (okName n)])) ∧ Below w.heap.size w w' := by
  have q0 := bel1 w (.cells #[.string ⟨#[]⟩, .string ⟨#[]⟩, .string ⟨#[]⟩] 77)
  have hA0 := At.box w #[.string ⟨#[]⟩, .string ⟨#[]⟩, .string ⟨#[]⟩] 77
  have hrl : r.length ≤ 1000000 := by have := cut_len 32 line; rw [hc] at this; simp only at this; omega
  have hcut := cut_any (hE.later q0) line 32 (by omega)
  rw [hc] at hcut
  have HE : Hid (Env w) := hE
  clear hE hc
  have e0 : ((B p).toList == cPUT) = true := B_q hv
  clear hv
  have hnl : n.length ≤ 1000000 := by have := cut_len 32 r; rw [hc2] at this; simp only at this; omega
  go_enter Tryz.func44, Tryz.ntmps44
  go_wp2_with fail
  refine hcut.mono ?_
  rintro e w1 ⟨rfl, hb1⟩
  clear hcut
  have hA1 := hA0.later hb1
  have hw1 := bt q0 hb1
  obtain ⟨c0, c1, c2, f0, f1, f2⟩ := hA1.three
  obtain ⟨hA2, ht2⟩ := hA1.put3 (.string (B p)) (.string (B r)) (.string ⟨#[]⟩)
  have hR1 := hA1.1
  have hE2 : Env (put3 w1 w.heap.size (.string (B p)) (.string (B r)) (.string ⟨#[]⟩)) := (HE.out.later hw1).turn ht2 (fun k hk => by rw [hk]; exact HE.out.big)
  have hw2 : Below w.heap.size w (put3 w1 w.heap.size (.string (B p)) (.string (B r)) (.string ⟨#[]⟩)) := hw1.trans (ht2.below hw1.size (fun k hk e => by omega))
  have K2 : Hid _ := And.intro hA2 (And.intro hE2 hw2)
  clear hA2 hE2 hw2 ht2 hA1 hA0 hb1 hw1 q0 HE
  obtain ⟨d0, d1, d2, g0, g1, g2⟩ := K2.out.1.three
  have hcut2 := cut_any K2.out.2.1 r 32 (by omega)
  rw [hc2] at hcut2
  go_wp2_with fail
  refine hcut2.mono ?_
  rintro e w3 ⟨rfl, hb3⟩
  clear hcut2
  have hA3 := K2.out.1.later hb3
  have hw3 := K2.out.2.2.trans (hb3.mono K2.out.2.2.size)
  have hA4 := (hA3.set 1 (.string (B n))).set 2 (.string (B t))
  have ht4 : Turn (fun k => k = w.heap.size) w3 _ := (turn_set w3 w.heap.size 1 (.string (B n))).trans (turn_set _ w.heap.size 2 (.string (B t)))
  have hw4 := hw3.trans (ht4.below hw3.size (fun k hk e => by omega))
  obtain ⟨i0, i1, i2, j0, j1, j2⟩ := hA3.three
  obtain ⟨m0, m1, m2, o0, o1, o2⟩ := At.three hA4
  have hA4' : At ((w3.setCell ⟨w.heap.size, 1, none⟩ (.string (B n))).setCell ⟨w.heap.size, 2, none⟩ (.string (B t))) w.heap.size #[.string (B p), .string (B n), .string (B t)] := hA4
  have K4 : Hid _ := And.intro hA4' hw4
  clear hA3 hw3 hA4 hA4' ht4 hw4 hb3 K2
  go_wp2
  go_region_with (go_at_call 61; refine (name_any n _ hnl).mono ?_; rintro e w9 ⟨rfl, hb8⟩; have hb9 := belU hb8; clear hb8; obtain ⟨k0, k1, k2, l0, l1, l2⟩ := (K4.out.1.later hb9).three)
  all_goals
    go_wp2
    refine bodyPost_ret (ret_cmd (i := 2) (j := 3) Tryz.results44 ((K4.out.1.later hb9).put3 _ _ _).1 rfl rfl rfl) rfl ⟨rfl, (K4.out.2.trans (hb9.mono K4.out.2.size)).trans ((((K4.out.1.later hb9).put3 _ _ _).2).below (K4.out.2.trans (hb9.mono K4.out.2.size)).size (fun k hk e => by omega))⟩
set_option maxHeartbeats 2000000 in
theorem read_g1f_app (hE : Env w) (line p r : By) (m : Bool) (hc : cutC 32 line = (p, r, m)) (hl : line.length ≤ 1000000) (hv : p = cAPP) (n t : By) (hc2 : cutC 32 r = (n, t, false)) :
    Calls Tryz.prog 44 #[.string (B line)] w fun e w' => (e = .returned (.tuple #[.agg #[.string (B p), .string (B n), .string (B t)], .bool (false)])) ∧ Below w.heap.size w w' := by
  have q0 := bel1 w (.cells #[.string ⟨#[]⟩, .string ⟨#[]⟩, .string ⟨#[]⟩] 77)
  have hA0 := At.box w #[.string ⟨#[]⟩, .string ⟨#[]⟩, .string ⟨#[]⟩] 77
  have hrl : r.length ≤ 1000000 := by have := cut_len 32 line; rw [hc] at this; simp only at this; omega
  have hcut := cut_any (hE.later q0) line 32 (by omega)
  rw [hc] at hcut
  have HE : Hid (Env w) := hE
  clear hE hc
  have e0 : ((B p).toList == cPUT) = false := B_nq (by subst hv; decide)
  have e1 : ((B p).toList == cAPP) = true := B_q hv
  clear hv
  go_enter Tryz.func44, Tryz.ntmps44
  go_wp2_with fail
  refine hcut.mono ?_
  rintro e w1 ⟨rfl, hb1⟩
  clear hcut
  have hA1 := hA0.later hb1
  have hw1 := bt q0 hb1
  obtain ⟨c0, c1, c2, f0, f1, f2⟩ := hA1.three
  obtain ⟨hA2, ht2⟩ := hA1.put3 (.string (B p)) (.string (B r)) (.string ⟨#[]⟩)
  have hR1 := hA1.1
  have hE2 : Env (put3 w1 w.heap.size (.string (B p)) (.string (B r)) (.string ⟨#[]⟩)) := (HE.out.later hw1).turn ht2 (fun k hk => by rw [hk]; exact HE.out.big)
  have hw2 : Below w.heap.size w (put3 w1 w.heap.size (.string (B p)) (.string (B r)) (.string ⟨#[]⟩)) := hw1.trans (ht2.below hw1.size (fun k hk e => by omega))
  have K2 : Hid _ := And.intro hA2 (And.intro hE2 hw2)
  clear hA2 hE2 hw2 ht2 hA1 hA0 hb1 hw1 q0 HE
  obtain ⟨d0, d1, d2, g0, g1, g2⟩ := K2.out.1.three
  have hcut2 := cut_any K2.out.2.1 r 32 (by omega)
  rw [hc2] at hcut2
  go_wp2_with fail
  refine hcut2.mono ?_
  rintro e w3 ⟨rfl, hb3⟩
  clear hcut2
  have hA3 := K2.out.1.later hb3
  have hw3 := K2.out.2.2.trans (hb3.mono K2.out.2.2.size)
  have hA4 := (hA3.set 1 (.string (B n))).set 2 (.string (B t))
  have ht4 : Turn (fun k => k = w.heap.size) w3 _ := (turn_set w3 w.heap.size 1 (.string (B n))).trans (turn_set _ w.heap.size 2 (.string (B t)))
  have hw4 := hw3.trans (ht4.below hw3.size (fun k hk e => by omega))
  obtain ⟨i0, i1, i2, j0, j1, j2⟩ := hA3.three
  obtain ⟨m0, m1, m2, o0, o1, o2⟩ := At.three hA4
  have hA4' : At ((w3.setCell ⟨w.heap.size, 1, none⟩ (.string (B n))).setCell ⟨w.heap.size, 2, none⟩ (.string (B t))) w.heap.size #[.string (B p), .string (B n), .string (B t)] := hA4
  have K4 : Hid _ := And.intro hA4' hw4
  clear hA3 hw3 hA4 hA4' ht4 hw4 hb3 K2
  go_wp2
  refine bodyPost_ret (ret_cmd (i := 2) (j := 3) Tryz.results44 (K4.out.1.put3 _ _ _).1 rfl rfl rfl) rfl ⟨rfl, K4.out.2.trans ((K4.out.1.put3 _ _ _).2.below K4.out.2.size (fun k hk e => by omega))⟩
set_option maxHeartbeats 2000000 in
theorem read_g1t_app (hE : Env w) (line p r : By) (m : Bool) (hc : cutC 32 line = (p, r, m)) (hl : line.length ≤ 1000000) (hv : p = cAPP) (n t : By) (hc2 : cutC 32 r = (n, t, true)) :
    Calls Tryz.prog 44 #[.string (B line)] w fun e w' => (e = .returned (.tuple #[.agg #[.string (B p), .string (B n), .string (B t)], .bool (okName n)])) ∧ Below w.heap.size w w' := by
  have q0 := bel1 w (.cells #[.string ⟨#[]⟩, .string ⟨#[]⟩, .string ⟨#[]⟩] 77)
  have hA0 := At.box w #[.string ⟨#[]⟩, .string ⟨#[]⟩, .string ⟨#[]⟩] 77
  have hrl : r.length ≤ 1000000 := by have := cut_len 32 line; rw [hc] at this; simp only at this; omega
  have hcut := cut_any (hE.later q0) line 32 (by omega)
  rw [hc] at hcut
  have HE : Hid (Env w) := hE
  clear hE hc
  have e0 : ((B p).toList == cPUT) = false := B_nq (by subst hv; decide)
  have e1 : ((B p).toList == cAPP) = true := B_q hv
  clear hv
  have hnl : n.length ≤ 1000000 := by have := cut_len 32 r; rw [hc2] at this; simp only at this; omega
  go_enter Tryz.func44, Tryz.ntmps44
  go_wp2_with fail
  refine hcut.mono ?_
  rintro e w1 ⟨rfl, hb1⟩
  clear hcut
  have hA1 := hA0.later hb1
  have hw1 := bt q0 hb1
  obtain ⟨c0, c1, c2, f0, f1, f2⟩ := hA1.three
  obtain ⟨hA2, ht2⟩ := hA1.put3 (.string (B p)) (.string (B r)) (.string ⟨#[]⟩)
  have hR1 := hA1.1
  have hE2 : Env (put3 w1 w.heap.size (.string (B p)) (.string (B r)) (.string ⟨#[]⟩)) := (HE.out.later hw1).turn ht2 (fun k hk => by rw [hk]; exact HE.out.big)
  have hw2 : Below w.heap.size w (put3 w1 w.heap.size (.string (B p)) (.string (B r)) (.string ⟨#[]⟩)) := hw1.trans (ht2.below hw1.size (fun k hk e => by omega))
  have K2 : Hid _ := And.intro hA2 (And.intro hE2 hw2)
  clear hA2 hE2 hw2 ht2 hA1 hA0 hb1 hw1 q0 HE
  obtain ⟨d0, d1, d2, g0, g1, g2⟩ := K2.out.1.three
  have hcut2 := cut_any K2.out.2.1 r 32 (by omega)
  rw [hc2] at hcut2
  go_wp2_with fail
  refine hcut2.mono ?_
  rintro e w3 ⟨rfl, hb3⟩
  clear hcut2
  have hA3 := K2.out.1.later hb3
  have hw3 := K2.out.2.2.trans (hb3.mono K2.out.2.2.size)
  have hA4 := (hA3.set 1 (.string (B n))).set 2 (.string (B t))
  have ht4 : Turn (fun k => k = w.heap.size) w3 _ := (turn_set w3 w.heap.size 1 (.string (B n))).trans (turn_set _ w.heap.size 2 (.string (B t)))
  have hw4 := hw3.trans (ht4.below hw3.size (fun k hk e => by omega))
  obtain ⟨i0, i1, i2, j0, j1, j2⟩ := hA3.three
  obtain ⟨m0, m1, m2, o0, o1, o2⟩ := At.three hA4
  have hA4' : At ((w3.setCell ⟨w.heap.size, 1, none⟩ (.string (B n))).setCell ⟨w.heap.size, 2, none⟩ (.string (B t))) w.heap.size #[.string (B p), .string (B n), .string (B t)] := hA4
  have K4 : Hid _ := And.intro hA4' hw4
  clear hA3 hw3 hA4 hA4' ht4 hw4 hb3 K2
  go_wp2
  go_region_with (go_at_call 61; refine (name_any n _ hnl).mono ?_; rintro e w9 ⟨rfl, hb8⟩; have hb9 := belU hb8; clear hb8; obtain ⟨k0, k1, k2, l0, l1, l2⟩ := (K4.out.1.later hb9).three)
  all_goals
    go_wp2
    refine bodyPost_ret (ret_cmd (i := 2) (j := 3) Tryz.results44 ((K4.out.1.later hb9).put3 _ _ _).1 rfl rfl rfl) rfl ⟨rfl, (K4.out.2.trans (hb9.mono K4.out.2.size)).trans ((((K4.out.1.later hb9).put3 _ _ _).2).below (K4.out.2.trans (hb9.mono K4.out.2.size)).size (fun k hk e => by omega))⟩
set_option maxHeartbeats 2000000 in
theorem read_g1f_add (hE : Env w) (line p r : By) (m : Bool) (hc : cutC 32 line = (p, r, m)) (hl : line.length ≤ 1000000) (hv : p = cADD) (n t : By) (hc2 : cutC 32 r = (n, t, false)) :
    Calls Tryz.prog 44 #[.string (B line)] w fun e w' => (e = .returned (.tuple #[.agg #[.string (B p), .string (B n), .string (B t)], .bool (false)])) ∧ Below w.heap.size w w' := by
  have q0 := bel1 w (.cells #[.string ⟨#[]⟩, .string ⟨#[]⟩, .string ⟨#[]⟩] 77)
  have hA0 := At.box w #[.string ⟨#[]⟩, .string ⟨#[]⟩, .string ⟨#[]⟩] 77
  have hrl : r.length ≤ 1000000 := by have := cut_len 32 line; rw [hc] at this; simp only at this; omega
  have hcut := cut_any (hE.later q0) line 32 (by omega)
  rw [hc] at hcut
  have HE : Hid (Env w) := hE
  clear hE hc
  have e0 : ((B p).toList == cPUT) = false := B_nq (by subst hv; decide)
  have e1 : ((B p).toList == cAPP) = false := B_nq (by subst hv; decide)
  have e2 : ((B p).toList == cADD) = true := B_q hv
  clear hv
  go_enter Tryz.func44, Tryz.ntmps44
  go_wp2_with fail
  refine hcut.mono ?_
  rintro e w1 ⟨rfl, hb1⟩
  clear hcut
  have hA1 := hA0.later hb1
  have hw1 := bt q0 hb1
  obtain ⟨c0, c1, c2, f0, f1, f2⟩ := hA1.three
  obtain ⟨hA2, ht2⟩ := hA1.put3 (.string (B p)) (.string (B r)) (.string ⟨#[]⟩)
  have hR1 := hA1.1
  have hE2 : Env (put3 w1 w.heap.size (.string (B p)) (.string (B r)) (.string ⟨#[]⟩)) := (HE.out.later hw1).turn ht2 (fun k hk => by rw [hk]; exact HE.out.big)
  have hw2 : Below w.heap.size w (put3 w1 w.heap.size (.string (B p)) (.string (B r)) (.string ⟨#[]⟩)) := hw1.trans (ht2.below hw1.size (fun k hk e => by omega))
  have K2 : Hid _ := And.intro hA2 (And.intro hE2 hw2)
  clear hA2 hE2 hw2 ht2 hA1 hA0 hb1 hw1 q0 HE
  obtain ⟨d0, d1, d2, g0, g1, g2⟩ := K2.out.1.three
  have hcut2 := cut_any K2.out.2.1 r 32 (by omega)
  rw [hc2] at hcut2
  go_wp2_with fail
  refine hcut2.mono ?_
  rintro e w3 ⟨rfl, hb3⟩
  clear hcut2
  have hA3 := K2.out.1.later hb3
  have hw3 := K2.out.2.2.trans (hb3.mono K2.out.2.2.size)
  have hA4 := (hA3.set 1 (.string (B n))).set 2 (.string (B t))
  have ht4 : Turn (fun k => k = w.heap.size) w3 _ := (turn_set w3 w.heap.size 1 (.string (B n))).trans (turn_set _ w.heap.size 2 (.string (B t)))
  have hw4 := hw3.trans (ht4.below hw3.size (fun k hk e => by omega))
  obtain ⟨i0, i1, i2, j0, j1, j2⟩ := hA3.three
  obtain ⟨m0, m1, m2, o0, o1, o2⟩ := At.three hA4
  have hA4' : At ((w3.setCell ⟨w.heap.size, 1, none⟩ (.string (B n))).setCell ⟨w.heap.size, 2, none⟩ (.string (B t))) w.heap.size #[.string (B p), .string (B n), .string (B t)] := hA4
  have K4 : Hid _ := And.intro hA4' hw4
  clear hA3 hw3 hA4 hA4' ht4 hw4 hb3 K2
  go_wp2
  refine bodyPost_ret (ret_cmd (i := 2) (j := 3) Tryz.results44 (K4.out.1.put3 _ _ _).1 rfl rfl rfl) rfl ⟨rfl, K4.out.2.trans ((K4.out.1.put3 _ _ _).2.below K4.out.2.size (fun k hk e => by omega))⟩
set_option maxHeartbeats 2000000 in
theorem read_g1t_add (hE : Env w) (line p r : By) (m : Bool) (hc : cutC 32 line = (p, r, m)) (hl : line.length ≤ 1000000) (hv : p = cADD) (n t : By) (hc2 : cutC 32 r = (n, t, true)) :
    Calls Tryz.prog 44 #[.string (B line)] w fun e w' => (e = .returned (.tuple #[.agg #[.string (B p), .string (B n), .string (B t)], .bool (okName n)])) ∧ Below w.heap.size w w' := by
  have q0 := bel1 w (.cells #[.string ⟨#[]⟩, .string ⟨#[]⟩, .string ⟨#[]⟩] 77)
  have hA0 := At.box w #[.string ⟨#[]⟩, .string ⟨#[]⟩, .string ⟨#[]⟩] 77
  have hrl : r.length ≤ 1000000 := by have := cut_len 32 line; rw [hc] at this; simp only at this; omega
  have hcut := cut_any (hE.later q0) line 32 (by omega)
  rw [hc] at hcut
  have HE : Hid (Env w) := hE
  clear hE hc
  have e0 : ((B p).toList == cPUT) = false := B_nq (by subst hv; decide)
  have e1 : ((B p).toList == cAPP) = false := B_nq (by subst hv; decide)
  have e2 : ((B p).toList == cADD) = true := B_q hv
  clear hv
  have hnl : n.length ≤ 1000000 := by have := cut_len 32 r; rw [hc2] at this; simp only at this; omega
  go_enter Tryz.func44, Tryz.ntmps44
  go_wp2_with fail
  refine hcut.mono ?_
  rintro e w1 ⟨rfl, hb1⟩
  clear hcut
  have hA1 := hA0.later hb1
  have hw1 := bt q0 hb1
  obtain ⟨c0, c1, c2, f0, f1, f2⟩ := hA1.three
  obtain ⟨hA2, ht2⟩ := hA1.put3 (.string (B p)) (.string (B r)) (.string ⟨#[]⟩)
  have hR1 := hA1.1
  have hE2 : Env (put3 w1 w.heap.size (.string (B p)) (.string (B r)) (.string ⟨#[]⟩)) := (HE.out.later hw1).turn ht2 (fun k hk => by rw [hk]; exact HE.out.big)
  have hw2 : Below w.heap.size w (put3 w1 w.heap.size (.string (B p)) (.string (B r)) (.string ⟨#[]⟩)) := hw1.trans (ht2.below hw1.size (fun k hk e => by omega))
  have K2 : Hid _ := And.intro hA2 (And.intro hE2 hw2)
  clear hA2 hE2 hw2 ht2 hA1 hA0 hb1 hw1 q0 HE
  obtain ⟨d0, d1, d2, g0, g1, g2⟩ := K2.out.1.three
  have hcut2 := cut_any K2.out.2.1 r 32 (by omega)
  rw [hc2] at hcut2
  go_wp2_with fail
  refine hcut2.mono ?_
  rintro e w3 ⟨rfl, hb3⟩
  clear hcut2
  have hA3 := K2.out.1.later hb3
  have hw3 := K2.out.2.2.trans (hb3.mono K2.out.2.2.size)
  have hA4 := (hA3.set 1 (.string (B n))).set 2 (.string (B t))
  have ht4 : Turn (fun k => k = w.heap.size) w3 _ := (turn_set w3 w.heap.size 1 (.string (B n))).trans (turn_set _ w.heap.size 2 (.string (B t)))
  have hw4 := hw3.trans (ht4.below hw3.size (fun k hk e => by omega))
  obtain ⟨i0, i1, i2, j0, j1, j2⟩ := hA3.three
  obtain ⟨m0, m1, m2, o0, o1, o2⟩ := At.three hA4
  have hA4' : At ((w3.setCell ⟨w.heap.size, 1, none⟩ (.string (B n))).setCell ⟨w.heap.size, 2, none⟩ (.string (B t))) w.heap.size #[.string (B p), .string (B n), .string (B t)] := hA4
  have K4 : Hid _ := And.intro hA4' hw4
  clear hA3 hw3 hA4 hA4' ht4 hw4 hb3 K2
  go_wp2
  go_region_with (go_at_call 61; refine (name_any n _ hnl).mono ?_; rintro e w9 ⟨rfl, hb8⟩; have hb9 := belU hb8; clear hb8; obtain ⟨k0, k1, k2, l0, l1, l2⟩ := (K4.out.1.later hb9).three)
  all_goals
    go_wp2
    refine bodyPost_ret (ret_cmd (i := 2) (j := 3) Tryz.results44 ((K4.out.1.later hb9).put3 _ _ _).1 rfl rfl rfl) rfl ⟨rfl, (K4.out.2.trans (hb9.mono K4.out.2.size)).trans ((((K4.out.1.later hb9).put3 _ _ _).2).below (K4.out.2.trans (hb9.mono K4.out.2.size)).size (fun k hk e => by omega))⟩
end
end Go.Proofs.YtadmpdeegnppjaaGreatDoor
