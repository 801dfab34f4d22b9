/- The document's wheel: Go; SpoilInts. -/
import Derived.Test.YtbdloehdhdifpaaDd
import Derived.Test.YtbdloehdhdifpaaWh
namespace Go.Proofs.Ytbdloehdhdifpaa
open Go.RowKit Go.Maps
set_option maxRecDepth 100000
set_option linter.unusedVariables false
set_option linter.unusedSimpArgs false

set_option maxHeartbeats 1000000 in
theorem spoil_any (base : Nat) (v : Value) (zs : List Int) (w : World) (hI : Ints w base v zs) (hn : zs.length < 1000000) :
    Calls Try.prog 17 #[v] w fun e w' => e = .returned (.tuple #[]) ∧ Turn (fun k => v.ownBlock = some k) w w' := by
  rcases hI.2 with ⟨rfl, h0⟩ | ⟨g, cap, cur, rfl, hg, hb, h1, h2, h3, h4⟩
  · go_enter Try.func17, Try.ntmps17
    go_wp2
    refine wp_loop_rounds 1 ?_
    rw [rounds_succ]
    go_wp2
    go_end0
    exact ⟨rfl, Turn.refl _⟩
  · go_enter Try.func17, Try.ntmps17
    go_wp2
    go_loopw [2] (fun c wr => ∃ (k : Nat) (ys : List Int), k ≤ zs.length ∧ c = .int .i64 (k : Int) ∧ ys.length = zs.length ∧ Ints wr base (.slice (some ⟨g, 0, none⟩) zs.length cap) ys ∧ Turn (fun k => (Value.slice (some ⟨g, 0, none⟩) zs.length cap).ownBlock = some k) w wr) (fun c _ => zs.length - (intOf c).toNat)
    case atStart => exact ⟨0, zs, Nat.zero_le _, rfl, rfl, hI, Turn.refl _⟩
    case round =>
      obtain ⟨k, ys, hk, rfl, hyl, hY, ht⟩ := hrel
      by_cases hlt : k < zs.length
      · unfold Ints at hY
        rw [hyl] at hY
        have hcell := World.ownsRow.cellAt hY k (by omega)
        have hfr := World.ownsRow.frozenAt hY k
        obtain ⟨hst, hgr⟩ := World.ownsRow.stored hY k (.int .i64 (-99))
        have hki : (k : Int) < (zs.length : Int) := by omega
        rw [show (ys.map (Value.int .i64))[k]? = some (.int .i64 (ys.getD k 0)) by simp [List.getD, show k < ys.length by omega]] at hcell
        have hT := ht.trans (Turn.of_grown hgr (S := fun k => (Value.slice (some ⟨g, 0, none⟩) zs.length cap).ownBlock = some k) (fun j hj => by cases hj; exact Or.inl rfl))
        have hY2 : Ints (wr.setCell ⟨g, k, none⟩ (.int .i64 (-99))) base (.slice (some ⟨g, 0, none⟩) zs.length cap) (ys.set k (-99)) := by
          unfold Ints
          rw [List.length_set, hyl, List.map_set]
          exact hst
        clear hst hgr hY
        go_wp2
        go_roundw
        case rel => exact ⟨k + 1, ys.set k (-99), by omega, by simp, by simp [hyl], hY2, hT⟩
        case measure => simp [intOf]; omega
      · go_wp2
        go_end0
        exact ⟨rfl, ht⟩
theorem fil_at {L : List Tm} (hs : L.Pairwise bef) {t : Int} : ∀ {k : Nat}, k ≤ L.length → (∀ j y, j < k → L[j]? = some y → y.2 ≤ t) → (∀ y, L[k]? = some y → ¬ y.2 ≤ t) → dueL t L = (L.take k).map (·.1) ∧ restL t L = L.drop k := by
  induction L with
  | nil =>
    intro k hk _ _
    simp only [List.length_nil, Nat.le_zero] at hk
    subst hk
    exact ⟨rfl, rfl⟩
  | cons y r ih =>
    intro k hk h1 h2
    have hy := List.pairwise_cons.1 hs
    cases k with
    | zero =>
      have h3 := h2 y rfl
      have hall : ∀ e ∈ y :: r, ¬ e.2 ≤ t := fun e he => by
        rcases List.mem_cons.1 he with rfl | h
        · exact h3
        · have := hy.1 e h
          unfold bef at this
          omega
      constructor
      · unfold dueL
        rw [List.filter_eq_nil_iff.2 (fun e he => by simpa using hall e he)]
        rfl
      · unfold restL
        rw [List.filter_eq_self.2 (fun e he => by simpa using hall e he)]
        rfl
    | succ k =>
      have h3 := h1 0 y (by omega) rfl
      obtain ⟨i1, i2⟩ := ih hy.2 (k := k) (by simpa using hk) (fun j z hj hz => h1 (j + 1) z (by omega) (by simpa using hz)) (fun z hz => h2 z (by simpa using hz))
      constructor
      · unfold dueL at *
        rw [List.filter_cons_of_pos (by simpa using h3), List.map_cons, i1]
        rfl
      · unfold restL at *
        rw [List.filter_cons_of_neg (by simpa using h3), i2]
        rfl
theorem rgo_f (R : Nat) (now t : Int) (v : Value) (w : World) (hR : At w R #[.int .i64 now, v]) (h : goOk now t = false) : Calls Try.prog 15 #[.pointer (some ⟨R, 0, none⟩), .int .i64 t] w fun e w' => e = .returned (.tuple #[.slice none 0 0, .int .i64 1]) ∧ w' = w := by
  obtain ⟨c0, -, -, -⟩ := hR.two
  have h := of_decide_eq_false h
  by_cases h1 : t < now
  · go_enter Try.func15, Try.ntmps15
    go_wp2
    go_ret2
    exact ⟨rfl, rfl⟩
  · have h2 : 1099511627776 < t := by omega
    go_enter Try.func15, Try.ntmps15
    go_wp2
    go_ret2
    exact ⟨rfl, rfl⟩
def vlen : Value → Nat
  | .slice _ n _ => n
  | _ => 0
set_option maxHeartbeats 8000000 in
theorem rgo_t (R base : Nat) (now t : Int) (v : Value) (L : List Tm) (w : World) (hR : At w R #[.int .i64 now, v]) (hT : TR w base v L) (hL : WL L) (hRb : R < base) (hbw : base ≤ w.heap.size) (h : goOk now t = true) : Calls Try.prog 15 #[.pointer (some ⟨R, 0, none⟩), .int .i64 t] w fun e w' => ∃ u v', e = .returned (.tuple #[u, .int .i64 0]) ∧ Ints w' w.heap.size u (dueL t L) ∧ At w' R #[.int .i64 t, v'] ∧ (∀ X, TR X base v L → TR X base v' (restL t L)) ∧ Turn (fun k => k = R) w w' := by
  obtain ⟨h1, h2⟩ := of_decide_eq_true h
  have h1' : ¬ t < now := by omega
  have h2' : ¬ 1099511627776 < t := by omega
  have hll := hL.len
  obtain ⟨c0, c1, f0, f1⟩ := hR.two
  have ht1 := turn_set w R 0 (.int .i64 t)
  have hR1 : At (w.setCell ⟨R, 0, none⟩ (.int .i64 t)) R #[.int .i64 t, v] := hR.set 0 (.int .i64 t)
  have hT1 := hT.turn ht1 (fun k hk _ e => by omega)
  have hsz : (w.setCell ⟨R, 0, none⟩ (.int .i64 t)).heap.size = w.heap.size := World.size_setCell _ _ _
  have HZ : Hid ((w.setCell ⟨R, 0, none⟩ (.int .i64 t)).heap.size = w.heap.size) := hsz
  have HT0 : Hid (TR w base v L) := hT
  clear hsz hR hT
  go_enter Try.func15, Try.ntmps15
  go_upto_region 4 with fail
  generalize w.setCell ⟨R, 0, none⟩ (.int .i64 t) = w1 at *
  go_wp2
  have HTW : Hid (∀ X, TR X base v L → TR X base v (L.drop 0)) := fun X h => h
  have HTV : Hid (TR w base v L) := HT0
  obtain ⟨v0, hv0⟩ : ∃ x, x = v := ⟨v, rfl⟩
  have HV0 : Hid (v0 = v) := hv0
  have HTW2 : Hid (∀ X, TR X base v0 L → TR X base v (L.drop 0)) := by rw [hv0]; exact HTW
  have HTV2 : Hid (TR w base v0 L) := by rw [hv0]; exact HTV
  clear HTW HTV hv0
  clear hT1 HT0
  have hTu1 : Turn (fun k => k = R) w w1 := ht1
  go_loopw [6] (fun ou wr => ∃ (u v : Value) (k : Nat), u = ou ∧ k ≤ L.length ∧ Ints wr w.heap.size u ((L.take k).map (·.1)) ∧ At wr R #[.int .i64 t, v] ∧ Hid (∀ X, TR X base v0 L → TR X base v (L.drop k)) ∧ Turn (fun k => k = R) w wr ∧ Hid (∀ j y, j < k → L[j]? = some y → y.2 ≤ t)) (fun ou _ => L.length - vlen ou)
  case atStart => exact ⟨_, v, 0, rfl, Nat.zero_le _, Ints.nil _ _, hR1, HTW2, hTu1, (show Hid _ from fun j y hj => by omega)⟩
  case round =>
    clear hR1 HTW2 hTu1 ht1 c0 c1 f0 f1
    obtain ⟨u, v, k, rfl, hk, hI, hR, HTX, htu, H1⟩ := hrel
    have HT : Hid (TR w base v (L.drop k)) := HTX.out w HTV2.out
    obtain ⟨c0, c1, f0, f1⟩ := hR.two
    have HRr : Hid (At wr R #[.int .i64 t, v]) := hR
    clear hR
    have hbw' : w.heap.size ≤ wr.heap.size := htu.size
    obtain ⟨au, cu, hu, -⟩ := hI.row
    have hlk : ((L.take k).map (·.1)).length = k := by rw [List.length_map, List.length_take, Nat.min_eq_left hk]
    rw [hlk] at hu
    subst hu
    by_cases hkl : k < L.length
    · obtain ⟨e9, he9⟩ : ∃ e, e = L[k] := ⟨_, rfl⟩
      have hge : L[k]? = some e9 := by rw [List.getElem?_eq_getElem hkl, he9]
      have hd0 : (L.drop k)[0]? = some e9 := by rw [List.getElem?_drop]; exact hge
      have hdl : (L.drop k).length = L.length - k := List.length_drop
      have hT9 := HT.out
      rcases hT9 with ⟨-, h9⟩ | ⟨g, off, c, hv, h22, h33, h44, h5⟩
      · rw [h9] at hd0; simp at hd0
      obtain ⟨x1, x2⟩ := h5 0 e9 hd0
      rw [Nat.zero_mul, Nat.add_zero] at x1 x2
      have hgR : ¬ (g = R) := by omega
      have y1 : wr.cell? ⟨g, off, none⟩ = some (.int .i64 e9.1) := (htu.cell h44 hgR _).trans x1
      have y2 : wr.cell? ⟨g, off + 1, none⟩ = some (.int .i64 e9.2) := (htu.cell h44 hgR _).trans x2
      rw [hdl] at hv
      have hn0 : (0 : Int) < ((L.length - k : Nat) : Int) := by omega
      have hn1 : 0 < L.length - k := by omega
      clear he9 hd0 x1 x2 h5 hdl
      have HGE : Hid (L[k]? = some e9) := hge
      clear hge
      by_cases hle : e9.2 ≤ t
      · obtain ⟨v2, hs2', hT2⟩ := from_tr HT.out (i := 1) (by rw [List.length_drop]; omega)
        rw [List.drop_drop] at hT2
        have hs2 : ∀ W, (Instr.slice 45 v (some (.int .i64 1)) none none).run Try.prog W = .ok v2 W := hs2'
        obtain ⟨p2, n2, k2, rfl⟩ := hT2.shape
        have HT2 : Hid (∀ X, TR X base v0 L → TR X base (.slice p2 n2 k2) (L.drop (k + 1))) := fun X hX => by
          obtain ⟨v9, hs9, hT9⟩ := from_tr (HTX.out X hX) (i := 1) (by rw [List.length_drop]; omega)
          have h9 := (hs2 X).symm.trans (hs9 X)
          injection h9 with h9 _
          rw [List.drop_drop] at hT9
          rw [h9]
          exact hT9
        have H3 : Hid (∀ j y, j < k + 1 → L[j]? = some y → y.2 ≤ t) := fun j y hj hy => by
          by_cases hjk : j = k
          · subst hjk; rw [HGE.out] at hy; injection hy with hy; rw [← hy]; exact hle
          · exact H1.out j y (by omega) hy
        have htk : (L.take (k + 1)).map (·.1) = (L.take k).map (·.1) ++ [e9.1] := by rw [List.take_add_one, HGE.out, List.map_append]; rfl
        have HTK : Hid _ := htk
        clear hs2' hT2 H1 HGE htk HT HTX
        rw [hv] at c1 HRr hs2
        clear hv
        generalize L.length - k = nn at *
        go_upto_region 6 with fail
        go_wp2_with (first
          | (at_builtin; refine wpList_append1 rfl _ _ rfl w.heap.size (.slice au k cu) ((L.take k).map (·.1)) e9.1 rfl hI rfl hbw' (by rw [hlk]; omega) ?_; intro v3 w3 hI3 hb3 ht3; have hRw : At w3 R #[.int .i64 t, .slice (some ⟨g, off, none⟩) nn c] := HRr.out.turn ht3 (fun e => by have := own_ge hI _ e; omega); obtain ⟨d0, d1, g0, g1⟩ := hRw.two)
          | fail)
        rw [← HTK.out] at hI3
        have htw3 : Turn (fun k => k = R) w w3 := ⟨ht3.os.trans htu.os, ht3.tape.trans htu.tape, ht3.output.trans htu.output, Nat.le_trans htu.size ht3.size, fun j hj hne => (ht3.block j (Nat.lt_of_lt_of_le hj htu.size) (fun e => by have := own_ge hI _ e; omega)).trans (htu.block j hj hne)⟩
        have kt := turn_set w3 R 1 (.slice p2 n2 k2)
        have hR4 : At (w3.setCell ⟨R, 1, none⟩ (.slice p2 n2 k2)) R #[.int .i64 t, .slice p2 n2 k2] := hRw.set 1 _
        have hI4 : Ints (w3.setCell ⟨R, 1, none⟩ (.slice p2 n2 k2)) w.heap.size v3 ((L.take (k + 1)).map (·.1)) := hI3.turn kt (fun j hj e => by omega)
        have htw4 := htw3.trans kt
        generalize w3.setCell ⟨R, 1, none⟩ (.slice p2 n2 k2) = w4 at *
        obtain ⟨a4, c4, hv4, -⟩ := hI4.row
        have hl4 : ((L.take (k + 1)).map (·.1)).length = k + 1 := by rw [List.length_map, List.length_take, Nat.min_eq_left (by omega)]
        rw [hl4] at hv4
        subst hv4
        go_roundw
        case rel => exact ⟨_, .slice p2 n2 k2, k + 1, rfl, by omega, hI4, hR4, HT2, htw4, H3⟩
        case measure => (simp [vlen]; try omega)
      · have H2 : Hid (∀ y, L[k]? = some y → ¬ y.2 ≤ t) := fun y hy => by rw [HGE.out] at hy; injection hy with hy; rw [← hy]; exact hle
        rw [hv] at c1
        obtain ⟨vv, hvv⟩ : ∃ x, x = v := ⟨v, rfl⟩
        rw [← hvv] at HRr HTX
        clear hvv hv HGE
        generalize L.length - k = nn at *
        go_wp2
        go_ret2
        obtain ⟨z1, z2⟩ := fil_at hL.srt hk H1.out (fun y hy => by have := H2.out y hy; omega)
        first | exact ⟨_, rfl, by rw [z1]; exact hI, vv, HRr.out, (fun X hX => by rw [z2]; exact HTX.out X (by rw [HV0.out]; exact hX)), htu⟩ | exact ⟨_, vv, rfl, by rw [z1]; exact hI, HRr.out, (fun X hX => by rw [z2]; exact HTX.out X (by rw [HV0.out]; exact hX)), htu⟩
    · have H2 : Hid (∀ y, L[k]? = some y → ¬ y.2 ≤ t) := fun y hy => absurd (List.getElem?_eq_some_iff.1 hy).1 hkl
      have hd : L.drop k = [] := List.drop_eq_nil_of_le (by omega)
      have hT9 := HT.out
      rw [hd] at hT9
      rcases hT9 with ⟨hv, -⟩ | ⟨g, off, c, hv, -⟩
      · rw [hv] at c1
        obtain ⟨vv, hvv⟩ : ∃ x, x = v := ⟨v, rfl⟩
        rw [← hvv] at HRr HTX
        clear hvv hv hd
        go_wp2
        go_ret2
        obtain ⟨z1, z2⟩ := fil_at hL.srt hk H1.out (fun y hy => by have := H2.out y hy; omega)
        first | exact ⟨_, rfl, by rw [z1]; exact hI, vv, HRr.out, (fun X hX => by rw [z2]; exact HTX.out X (by rw [HV0.out]; exact hX)), htu⟩ | exact ⟨_, vv, rfl, by rw [z1]; exact hI, HRr.out, (fun X hX => by rw [z2]; exact HTX.out X (by rw [HV0.out]; exact hX)), htu⟩
      · rw [hv] at c1
        simp only [List.length_nil] at c1
        obtain ⟨vv, hvv⟩ : ∃ x, x = v := ⟨v, rfl⟩
        rw [← hvv] at HRr HTX
        clear hvv hv hd
        go_wp2
        go_ret2
        obtain ⟨z1, z2⟩ := fil_at hL.srt hk H1.out (fun y hy => by have := H2.out y hy; omega)
        first | exact ⟨_, rfl, by rw [z1]; exact hI, vv, HRr.out, (fun X hX => by rw [z2]; exact HTX.out X (by rw [HV0.out]; exact hX)), htu⟩ | exact ⟨_, vv, rfl, by rw [z1]; exact hI, HRr.out, (fun X hX => by rw [z2]; exact HTX.out X (by rw [HV0.out]; exact hX)), htu⟩
end Go.Proofs.Ytbdloehdhdifpaa
