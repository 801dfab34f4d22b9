/- The document's Apart. -/
import Derived.Test.YtiglaalppaljbaaYc
import Derived.Test.YtiglaalppaljbaaVq
namespace Go.Proofs.Ytiglaalppaljbaa
open Go.RowKit Go.Maps Go.Lib
set_option maxRecDepth 100000
set_option linter.unusedVariables false
set_option linter.unusedSimpArgs false


def hB (Q : Rq) (x : Nat) : Bool := decide (x < Q.room) && (Q.ap x).isSome
def psH (Q : Rq) (i : Nat) : List Nat := (List.range i).filter fun x => hB Q x
theorem psH_succ (Q : Rq) (i : Nat) : psH Q (i + 1) = psH Q i ++ if hB Q i = true then [i] else [] := by
  unfold psH
  rw [List.range_succ, List.filter_append]
  cases h : hB Q i <;> simp [h]
theorem psH_skip {Q : Rq} {i : Nat} (h : hB Q i = false) : psH Q (i + 1) = psH Q i := by rw [psH_succ, h]; simp
theorem psH_offs (Q : Rq) : psH Q Q.room = offs Q := by
  unfold psH offs
  refine List.filter_congr fun x hx => ?_
  unfold hB
  rw [decide_eq_true (List.mem_range.1 hx), Bool.true_and]
theorem psH_rise (Q : Rq) (i : Nat) : (psH Q i).Pairwise (· < ·) := List.Pairwise.filter _ List.pairwise_lt_range
theorem psH_mem {Q : Rq} {i x : Nat} (h : x ∈ psH Q i) : x < i ∧ hB Q x = true := by
  have := List.mem_filter.1 h
  exact ⟨List.mem_range.1 this.1, this.2⟩
theorem psH_more {Q : Rq} (i : Nat) : ∀ n, (∀ x, i ≤ x → x < i + n → hB Q x = true) → psH Q (i + n) = psH Q i ++ (List.range n).map (i + ·) := by
  intro n
  induction n with
  | zero => intro _; simp
  | succ n ih =>
    intro h
    rw [← Nat.add_assoc, psH_succ, ih (fun x h1 h2 => h x h1 (by omega)), h (i + n) (by omega) (by omega), List.range_succ, List.map_append, List.append_assoc]
    rfl
theorem psH_rest {Q : Rq} (i : Nat) : ∀ n, ∃ r, psH Q (i + n) = psH Q i ++ r ∧ ∀ x ∈ r, i ≤ x := by
  intro n
  induction n with
  | zero => exact ⟨[], by simp, by simp⟩
  | succ n ih =>
    obtain ⟨r, h1, h2⟩ := ih
    rw [← Nat.add_assoc, psH_succ, h1]
    cases hq : hB Q (i + n) with
    | false => exact ⟨r, by simp, h2⟩
    | true =>
      refine ⟨r ++ [i + n], by simp, fun x hx => ?_⟩
      rcases List.mem_append.1 hx with h3 | h3
      · exact h2 x h3
      · simp at h3; omega
theorem str_split {p1 p2 : List Nat} (h : ∀ e p, (strL p1).getLast? = some e → p2.head? = some p → e.2 ≠ p) : strL (p1 ++ p2) = strL p1 ++ strL p2 := by
  unfold strL at *
  rw [List.foldl_append]
  generalize p1.foldl snoc [] = acc at *
  cases p2 with
  | nil => simp
  | cons p r =>
    have e2 : snoc acc p = acc ++ [(p, p + 1)] := by
      unfold snoc
      cases hq : acc.getLast? with
      | none => rw [List.getLast?_eq_none_iff.1 hq]; rfl
      | some e => dsimp only; rw [if_neg (h e p hq rfl)]
    rw [List.foldl_cons, e2, fold_app r (by simp)]
    rfl
theorem str_run (i : Nat) : ∀ n, strL ((List.range (n + 1)).map (i + ·)) = [(i, i + n + 1)] := by
  intro n
  induction n with
  | zero => rfl
  | succ n ih =>
    rw [List.range_succ, List.map_append]
    unfold strL at *
    rw [List.foldl_append, ih]
    show snoc [(i, i + n + 1)] (i + (n + 1)) = _
    unfold snoc
    simp only [List.getLast?_singleton]
    rw [if_pos (by omega)]
    simp
    try omega
/-- No stretch is open at i. -/
def Clo (Q : Rq) (i : Nat) : Prop := i = 0 ∨ hB Q (i - 1) = false
theorem clo_last {Q : Rq} {i : Nat} (hc : Clo Q i) {e : St} (he : (strL (psH Q i)).getLast? = some e) : e.2 < i := by
  have hs := sok_str (psH_rise Q i)
  have hm := List.mem_of_getLast? he
  have h1 := hs.ok e hm
  have h2 := psH_mem ((hs.mem (e.2 - 1)).1 ⟨e, hm, by omega, by omega⟩)
  rcases hc with h3 | h3
  · omega
  · rcases Nat.lt_or_ge e.2 i with h4 | h4
    · exact h4
    · have : e.2 - 1 = i - 1 := by omega
      rw [this, h3] at h2
      cases h2.2
theorem clo_run {Q : Rq} {i k : Nat} (hc : Clo Q i) (hik : i < k) (hin : ∀ x, i ≤ x → x < k → hB Q x = true) : strL (psH Q k) = strL (psH Q i) ++ [(i, k)] := by
  obtain ⟨n, rfl⟩ : ∃ n, k = i + (n + 1) := ⟨k - i - 1, by omega⟩
  rw [psH_more i (n + 1) (fun x h1 h2 => hin x h1 h2), str_split (fun e p he hp => ?_), str_run]
  · rfl
  · have := clo_last hc he
    rw [List.range_succ_eq_map] at hp
    simp at hp
    omega
theorem clo_rest {Q : Rq} {i : Nat} (hc : Clo Q i) (hi : i ≤ Q.room) : ∃ r, strL (offs Q) = strL (psH Q i) ++ r := by
  obtain ⟨r, h1, h2⟩ := psH_rest (Q := Q) i (Q.room - i)
  rw [show i + (Q.room - i) = Q.room by omega, psH_offs] at h1
  refine ⟨strL r, ?_⟩
  rw [h1]
  exact str_split (fun e p he hp => by
    have a1 := clo_last hc he
    have a2 := h2 p (List.mem_of_head? hp)
    omega)
theorem run_end {Q : Rq} : ∀ (n i : Nat), Q.room = i + n → ∃ k, i ≤ k ∧ k ≤ Q.room ∧ (∀ x, i ≤ x → x < k → hB Q x = true) ∧ hB Q k = false := by
  intro n
  induction n with
  | zero => exact fun i h => ⟨i, Nat.le_refl _, by omega, fun x h1 h2 => absurd h1 (by omega), by unfold hB; rw [decide_eq_false (by omega)]; rfl⟩
  | succ n ih =>
    intro i h
    cases hq : hB Q i with
    | false => exact ⟨i, Nat.le_refl _, by omega, fun x h1 h2 => absurd h1 (by omega), hq⟩
    | true =>
      obtain ⟨k, h1, h2, h3, h4⟩ := ih (i + 1) (by omega)
      refine ⟨k, by omega, h2, fun x h5 h6 => ?_, h4⟩
      by_cases e : x = i
      · rw [e]; exact hq
      · exact h3 x (by omega) h6
theorem psH_len (Q : Rq) (i : Nat) (hi : i ≤ Q.room + 1) (hr : Q.room ≤ 65536) : (strL (psH Q i)).length ≤ 65537 := by
  have h1 := fold_len (psH Q i) []
  have h2 : (psH Q i).length ≤ i := by
    unfold psH
    refine Nat.le_trans (List.length_filter_le _ _) ?_
    rw [List.length_range]; exact Nat.le_refl _
  unfold strL
  simp at h1
  omega
theorem psH_over (Q : Rq) : psH Q (Q.room + 1) = offs Q := by rw [psH_skip (by unfold hB; rw [decide_eq_false (by omega)]; rfl), psH_offs]
set_option maxHeartbeats 4000000 in
theorem rapart_any {w : World} {A : Bk} {r : Nat} {Q : Rq} (hX : RX w A r Q) (hf : Q.Fine) (most : Int) :
    Calls Try.prog 20 #[PQ r, .int .i64 most] w fun e w' => ∃ v, e = .returned v ∧ RO w' w.heap.size v (apartL Q most) ∧ Below w.heap.size w w' := by
  obtain ⟨vh, vb, h⟩ := hX
  have n0 := hf.n0
  have n1 := hf.n1
  have r1 := hf.r1
  have r0 := hf.r0
  obtain ⟨gH, oH, cH, hvh, hch⟩ := h.hh.shape
  rw [hereL_len] at hvh hch
  subst hvh
  obtain ⟨⟨c0, c1, c2, c3, c4⟩, -⟩ := h.at5.five
  have hc0 : ∀ W, Below w.heap.size w W → W.cell? ⟨r, 0, none⟩ = some (.int .i64 Q.next) := fun W hW => later hW c0
  have hc1 : ∀ W, Below w.heap.size w W → W.cell? ⟨r, 1, none⟩ = some (.int .i64 (Q.room : Int)) := fun W hW => later hW c1
  have hc3 : ∀ W, Below w.heap.size w W → W.cell? ⟨r, 3, none⟩ = some (.slice (some ⟨gH, oH, none⟩) Q.room cH) := fun W hW => later hW c3
  have hcx : ∀ W x, Below w.heap.size w W → x < Q.room → W.cell? ⟨gH, oH + x, none⟩ = some (.bool (hB Q x)) := fun W x hW hx => by
    have := (h.hh.later hW).cell (j := x) (x := (Q.ap x).isSome) (hereL_at hx)
    unfold hB
    rw [decide_eq_true hx, Bool.true_and]
    exact this
  have HCX : Hid (∀ W x, Below w.heap.size w W → x < Q.room → W.cell? ⟨gH, oH + x, none⟩ = some (.bool (hB Q x))) := hcx
  clear c0 c1 c2 c3 c4 h hcx
  go_enter Try.func20, Try.ntmps20
  go_wp2_with fail
  try go_frame
  go_loopw [5, 6] (fun s5 s6 wr => ∃ (i : Nat), i ≤ Q.room + 1 ∧ s6 = .int .i64 (i : Int) ∧ RO wr w.heap.size s5 ((strL (psH Q i)).map (numR Q.next)) ∧ Hid ((strL (psH Q i)).length ≤ most.toNat ∧ Clo Q i) ∧ Below w.heap.size w wr) (fun _ s6 _ => Q.room + 1 - (RowKit.intOf s6).toNat)
  case atStart => exact ⟨0, Nat.zero_le _, rfl, RO.nil _ _, ⟨by simp [psH, strL], Or.inl rfl⟩, Below.refl _ _⟩
  case round =>
    obtain ⟨i, hi, rfl, hR, HC, hb⟩ := hrel
    have k1 := hc1 wr hb
    have k3 := hc3 wr hb
    have hpl := psH_len Q i hi r1
    obtain ⟨al, cl, e5, -⟩ := hR.shape
    rw [List.length_map] at e5
    obtain ⟨n, hn⟩ : ∃ n, n = (strL (psH Q i)).length := ⟨_, rfl⟩
    rw [← hn] at e5 hpl
    have HN : Hid (n = (strL (psH Q i)).length) := hn
    subst e5
    clear hn
    go_upto_region 3 with fail
    go_cut [19] from 8 to 18 (fun s19 W => s19 = .bool (decide (i < Q.room ∧ (n : Int) < most)) ∧ W = wr)
    case first =>
      by_cases z0 : i < Q.room
      · have z2 : (i : Int) < (Q.room : Int) := by omega
        by_cases z1 : (n : Int) < most
        · go_wp2
          go_meet
          case rel => exact ⟨by rw [decide_eq_true ⟨z0, z1⟩], rfl⟩
        · go_wp2
          go_meet
          case rel => exact ⟨by rw [decide_eq_false (by omega)], rfl⟩
      · have z2 : ¬ (i : Int) < (Q.room : Int) := by omega
        go_wp2
        go_meet
        case rel => exact ⟨by rw [decide_eq_false (fun h => z0 h.1)], rfl⟩
    case rest =>
    obtain ⟨rfl, hw4⟩ := hcut
    subst hw4
    obtain ⟨wr, hw4⟩ : ∃ x, x = wc := ⟨wc, rfl⟩
    subst hw4
    by_cases hlt : i < Q.room ∧ (n : Int) < most
    · rw [decide_eq_true hlt]
      obtain ⟨hir, hnm⟩ := hlt
      have kx := HCX.out wr i hb hir
      have hiI : (i : Int) < (Q.room : Int) := by omega
      cases hq : hB Q i with
      | false =>
        rw [hq] at kx
        have HR2 : Hid (RO wr w.heap.size (.slice al n cl) ((strL (psH Q (i + 1))).map (numR Q.next)) ∧ (strL (psH Q (i + 1))).length ≤ most.toNat ∧ Clo Q (i + 1)) := by
          rw [psH_skip hq]
          exact ⟨hR, HC.out.1, Or.inr hq⟩
        clear hq
        go_wp2
        go_roundw
        case rel => exact ⟨i + 1, by omega, by first | rfl | simp, HR2.out.1, ⟨HR2.out.2.1, HR2.out.2.2⟩, hb⟩
        case measure => first | omega | (simp only [RowKit.intOf]; omega) | (simp [RowKit.intOf]; omega)
      | true =>
        rw [hq] at kx
        obtain ⟨kk, hk1, hk2, hk3, hk4⟩ := run_end (Q := Q) (Q.room - i) i (by omega)
        have hik : i < kk := by
          rcases Nat.lt_or_ge i kk with h9 | h9
          · exact h9
          · have : kk = i := by omega
            rw [this, hq] at hk4; cases hk4
        have HS : Hid (strL (psH Q kk) = strL (psH Q i) ++ [(i, kk)]) := clo_run HC.out.2 hik hk3
        have HKK : Hid ((∀ x, i ≤ x → x < kk → hB Q x = true) ∧ hB Q kk = false) := ⟨hk3, hk4⟩
        clear hk3 hk4 hq hk1
        go_wp2_with fail
        try go_frame
        go_loopw [7] (fun s7 W => ∃ (k : Nat), i ≤ k ∧ k ≤ kk ∧ s7 = .int .i64 (k : Int) ∧ W = wr) (fun s7 _ => kk - (RowKit.intOf s7).toNat)
        case atStart => exact ⟨i, Nat.le_refl _, by omega, rfl, rfl⟩
        case round =>
          obtain ⟨k, hk5, hk6, rfl, hwe⟩ := hrel
          subst hwe
          obtain ⟨wq, hwq⟩ : ∃ x, x = wr := ⟨wr, rfl⟩
          subst hwq
          go_upto_region 7 with fail
          go_cut [45] from 31 to 44 (fun s45 W => s45 = .bool (decide (k < kk)) ∧ W = wq)
          case first =>
            by_cases hkr : k < Q.room
            · have z2 : (k : Int) < (Q.room : Int) := by omega
              have kc := HCX.out wq k hb hkr
              have HV : Hid (hB Q k = decide (k < kk)) := by
                show _ = _
                by_cases h9 : k < kk
                · rw [decide_eq_true h9]; exact HKK.out.1 k hk5 h9
                · rw [decide_eq_false h9, show k = kk by omega]; exact HKK.out.2
              go_wp2
              go_meet
              case rel => exact ⟨by rw [HV.out], rfl⟩
            · have z2 : ¬ (k : Int) < (Q.room : Int) := by omega
              go_wp2
              go_meet
              case rel => exact ⟨by rw [decide_eq_false (by omega)], rfl⟩
          case rest =>
          obtain ⟨rfl, hw10⟩ := hcut
          subst hw10
          obtain ⟨wq, hwq⟩ : ∃ x, x = wc := ⟨wc, rfl⟩
          subst hwq
          by_cases hkl : k < kk
          · rw [decide_eq_true hkl]
            go_wp2
            go_roundw
            case rel => exact ⟨k + 1, by omega, by omega, by first | rfl | simp, by first | rfl | trivial⟩
            case measure => first | omega | (simp only [RowKit.intOf]; omega) | (simp [RowKit.intOf]; omega)
          · rw [decide_eq_false hkl]
            have hke : k = kk := by omega
            subst hke
            have hm1 := fun W => mod_any (Q.next + (i : Int)) W
            have hm2 := fun W => mod_any (Q.next + (k : Int)) W
            have hw1 : IntKind.i64.wrap (Q.next + (i : Int)) = Q.next + (i : Int) := by rw [IntKind.wrap_i64] <;> omega
            have hw2 : IntKind.i64.wrap (Q.next + (k : Int)) = Q.next + (k : Int) := by rw [IntKind.wrap_i64] <;> omega
            obtain ⟨fr, hfr⟩ : ∃ x, x = (Q.next + (i : Int)) % 4294967296 := ⟨_, rfl⟩
            obtain ⟨tt, htt⟩ : ∃ x, x = (Q.next + (k : Int)) % 4294967296 := ⟨_, rfl⟩
            rw [← hfr] at hm1
            rw [← htt] at hm2
            have HNR : Hid (numR Q.next (i, k) = (fr, tt)) := by show _ = _; unfold numR; rw [hfr, htt]
            clear hfr htt hkl
            have hRd : RO wq.drew w.heap.size (.slice al n cl) ((strL (psH Q i)).map (numR Q.next)) := hR.later (Below.refl _ _).drew
            obtain ⟨v2, w2, e1, hR2, hb2⟩ := appR hRd hb.size (fr, tt) (by rw [List.length_map]; have := HN.out; omega) 42
            have HF : Hid (RO w2 w.heap.size v2 ((strL (psH Q (k + 1))).map (numR Q.next)) ∧ (strL (psH Q (k + 1))).length ≤ most.toNat ∧ Clo Q (k + 1)) := by
              rw [psH_skip HKK.out.2, HS.out, List.map_append, List.length_append]
              refine ⟨?_, ?_, Or.inr HKK.out.2⟩
              · show RO w2 w.heap.size v2 (_ ++ [numR Q.next (i, k)])
                rw [HNR.out]
                exact hR2
              · have := HN.out
                show _ + 1 ≤ _
                omega
            have HB2 : Hid (Below w.heap.size w w2) := hb.drew.trans hb2
            clear hR2 hb2 kx k1 k3 hRd
            go_upto_region 9 with fail
            refine wp_region_held_drew (S := (fun W => Below w.heap.size w W)) (by kernel_rfl) ?_ (fun hHeld => ?_)
            · first | exact hb.drew | assumption
            refine wpAnyH_take (i := 0) (oi := ({ dst := some 48, op := Go.Op.move (Go.Operand.tmp 5), type := 42, pos := "ref.go:80", after := #[], guard := none } : Go.Oper)) (v := .slice al n cl) rfl (by kernel_rfl) (by kernel_rfl) (by kernel_rfl) (fun _ _ _ h => h) (Or.inl ⟨by rfl, ?_⟩) (by assumption) ?_
            · intro wx hSw
              try dsimp only at hSw
              have u0 := hc0 wx hSw
              go_simp
              try with_reducible rfl
            try simp only [Act.put, List.setIfInBounds_toArray, List.set_cons_zero, List.set_cons_succ]
            refine wpAnyH_take (i := 1) (oi := ({ dst := some 49, op := Go.Op.move (Go.Operand.tmp 0), type := 28, pos := "ref.go:80", after := #[], guard := none } : Go.Oper)) (v := .pointer (some ⟨r, 0, none⟩)) rfl (by kernel_rfl) (by kernel_rfl) (by kernel_rfl) (fun _ _ _ h => h) (Or.inl ⟨by rfl, ?_⟩) (by assumption) ?_
            · intro wx hSw
              try dsimp only at hSw
              have u0 := hc0 wx hSw
              go_simp
              try with_reducible rfl
            try simp only [Act.put, List.setIfInBounds_toArray, List.set_cons_zero, List.set_cons_succ]
            refine wpAnyH_take (i := 2) (oi := ({ dst := some 50, op := Go.Op.nilCheck (Go.Operand.tmp 49), type := 0, pos := "ref.go:80", after := #[{ on := 1, ground := Go.Ground.data }], guard := none } : Go.Oper)) (v := .pointer (some ⟨r, 0, none⟩)) rfl (by kernel_rfl) (by kernel_rfl) (by kernel_rfl) (fun _ _ _ h => h) (Or.inl ⟨by rfl, ?_⟩) (by assumption) ?_
            · intro wx hSw
              try dsimp only at hSw
              have u0 := hc0 wx hSw
              go_simp
              try with_reducible rfl
            try simp only [Act.put, List.setIfInBounds_toArray, List.set_cons_zero, List.set_cons_succ]
            refine wpAnyH_take (i := 3) (oi := ({ dst := some 51, op := Go.Op.fieldAddr 41 (Go.Operand.tmp 50) 0, type := 0, pos := "ref.go:80", after := #[{ on := 2, ground := Go.Ground.data }], guard := none } : Go.Oper)) (v := .pointer (some ⟨r, 0, none⟩)) rfl (by kernel_rfl) (by kernel_rfl) (by kernel_rfl) (fun _ _ _ h => h) (Or.inl ⟨by rfl, ?_⟩) (by assumption) ?_
            · intro wx hSw
              try dsimp only at hSw
              have u0 := hc0 wx hSw
              go_simp
              try with_reducible rfl
            try simp only [Act.put, List.setIfInBounds_toArray, List.set_cons_zero, List.set_cons_succ]
            refine wpAnyH_take (i := 4) (oi := ({ dst := some 52, op := Go.Op.load 3 (Go.Operand.tmp 51), type := 3, pos := "ref.go:80", after := #[{ on := 3, ground := Go.Ground.data }], guard := none } : Go.Oper)) (v := .int .i64 Q.next) rfl (by kernel_rfl) (by kernel_rfl) (by kernel_rfl) (fun _ _ _ h => h) (Or.inl ⟨by rfl, ?_⟩) (by assumption) ?_
            · intro wx hSw
              try dsimp only at hSw
              have u0 := hc0 wx hSw
              go_simp
              try with_reducible rfl
            try simp only [Act.put, List.setIfInBounds_toArray, List.set_cons_zero, List.set_cons_succ]
            refine wpAnyH_take (i := 5) (oi := ({ dst := some 53, op := Go.Op.move (Go.Operand.tmp 6), type := 3, pos := "ref.go:80", after := #[], guard := none } : Go.Oper)) (v := .int .i64 (i : Int)) rfl (by kernel_rfl) (by kernel_rfl) (by kernel_rfl) (fun _ _ _ h => h) (Or.inl ⟨by rfl, ?_⟩) (by assumption) ?_
            · intro wx hSw
              try dsimp only at hSw
              have u0 := hc0 wx hSw
              go_simp
              try with_reducible rfl
            try simp only [Act.put, List.setIfInBounds_toArray, List.set_cons_zero, List.set_cons_succ]
            refine wpAnyH_take (i := 6) (oi := ({ dst := some 54, op := Go.Op.binOp Go.BinOp.add 3 (Go.Operand.tmp 52) (Go.Operand.tmp 53) 3, type := 3, pos := "ref.go:80", after := #[{ on := 4, ground := Go.Ground.data }, { on := 5, ground := Go.Ground.data }], guard := none } : Go.Oper)) (v := .int .i64 (Q.next + (i : Int))) rfl (by kernel_rfl) (by kernel_rfl) (by kernel_rfl) (fun _ _ _ h => h) (Or.inl ⟨by rfl, ?_⟩) (by assumption) ?_
            · intro wx hSw
              try dsimp only at hSw
              have u0 := hc0 wx hSw
              go_simp
              try with_reducible rfl
            try simp only [Act.put, List.setIfInBounds_toArray, List.set_cons_zero, List.set_cons_succ]
            refine wpAnyH_take (i := 8) (oi := ({ dst := some 56, op := Go.Op.move (Go.Operand.tmp 0), type := 28, pos := "ref.go:80", after := #[], guard := none } : Go.Oper)) (v := .pointer (some ⟨r, 0, none⟩)) rfl (by kernel_rfl) (by kernel_rfl) (by kernel_rfl) (fun _ _ _ h => h) (Or.inl ⟨by rfl, ?_⟩) (by assumption) ?_
            · intro wx hSw
              try dsimp only at hSw
              have u0 := hc0 wx hSw
              go_simp
              try with_reducible rfl
            try simp only [Act.put, List.setIfInBounds_toArray, List.set_cons_zero, List.set_cons_succ]
            refine wpAnyH_take (i := 9) (oi := ({ dst := some 57, op := Go.Op.nilCheck (Go.Operand.tmp 56), type := 0, pos := "ref.go:80", after := #[{ on := 8, ground := Go.Ground.data }], guard := none } : Go.Oper)) (v := .pointer (some ⟨r, 0, none⟩)) rfl (by kernel_rfl) (by kernel_rfl) (by kernel_rfl) (fun _ _ _ h => h) (Or.inl ⟨by rfl, ?_⟩) (by assumption) ?_
            · intro wx hSw
              try dsimp only at hSw
              have u0 := hc0 wx hSw
              go_simp
              try with_reducible rfl
            try simp only [Act.put, List.setIfInBounds_toArray, List.set_cons_zero, List.set_cons_succ]
            refine wpAnyH_take (i := 10) (oi := ({ dst := some 58, op := Go.Op.fieldAddr 41 (Go.Operand.tmp 57) 0, type := 0, pos := "ref.go:80", after := #[{ on := 9, ground := Go.Ground.data }], guard := none } : Go.Oper)) (v := .pointer (some ⟨r, 0, none⟩)) rfl (by kernel_rfl) (by kernel_rfl) (by kernel_rfl) (fun _ _ _ h => h) (Or.inl ⟨by rfl, ?_⟩) (by assumption) ?_
            · intro wx hSw
              try dsimp only at hSw
              have u0 := hc0 wx hSw
              go_simp
              try with_reducible rfl
            try simp only [Act.put, List.setIfInBounds_toArray, List.set_cons_zero, List.set_cons_succ]
            refine wpAnyH_take (i := 11) (oi := ({ dst := some 59, op := Go.Op.load 3 (Go.Operand.tmp 58), type := 3, pos := "ref.go:80", after := #[{ on := 10, ground := Go.Ground.data }], guard := none } : Go.Oper)) (v := .int .i64 Q.next) rfl (by kernel_rfl) (by kernel_rfl) (by kernel_rfl) (fun _ _ _ h => h) (Or.inl ⟨by rfl, ?_⟩) (by assumption) ?_
            · intro wx hSw
              try dsimp only at hSw
              have u0 := hc0 wx hSw
              go_simp
              try with_reducible rfl
            try simp only [Act.put, List.setIfInBounds_toArray, List.set_cons_zero, List.set_cons_succ]
            refine wpAnyH_take (i := 12) (oi := ({ dst := some 60, op := Go.Op.move (Go.Operand.tmp 7), type := 3, pos := "ref.go:80", after := #[], guard := none } : Go.Oper)) (v := .int .i64 (k : Int)) rfl (by kernel_rfl) (by kernel_rfl) (by kernel_rfl) (fun _ _ _ h => h) (Or.inl ⟨by rfl, ?_⟩) (by assumption) ?_
            · intro wx hSw
              try dsimp only at hSw
              have u0 := hc0 wx hSw
              go_simp
              try with_reducible rfl
            try simp only [Act.put, List.setIfInBounds_toArray, List.set_cons_zero, List.set_cons_succ]
            refine wpAnyH_take (i := 13) (oi := ({ dst := some 61, op := Go.Op.binOp Go.BinOp.add 3 (Go.Operand.tmp 59) (Go.Operand.tmp 60) 3, type := 3, pos := "ref.go:80", after := #[{ on := 11, ground := Go.Ground.data }, { on := 12, ground := Go.Ground.data }], guard := none } : Go.Oper)) (v := .int .i64 (Q.next + (k : Int))) rfl (by kernel_rfl) (by kernel_rfl) (by kernel_rfl) (fun _ _ _ h => h) (Or.inl ⟨by rfl, ?_⟩) (by assumption) ?_
            · intro wx hSw
              try dsimp only at hSw
              have u0 := hc0 wx hSw
              go_simp
              try with_reducible rfl
            try simp only [Act.put, List.setIfInBounds_toArray, List.set_cons_zero, List.set_cons_succ]
            refine wpAnyH_ready (rs := [7]) (by kernel_rfl) (by simp) ?_
            refine AllReadyH.cons (o := ({ dst := some 55, op := Go.Op.call { callee := Go.Callee.value (Go.Operand.func 35), args := #[Go.Operand.tmp 54], argTypes := #[3] }, type := 3, pos := "ref.go:80", after := #[{ on := 6, ground := Go.Ground.data }], guard := none } : Go.Oper)) rfl (fun K hK => ?_) AllReadyH.nil
            go_simp
            refine (hm1 _).mono ?_
            rintro e wy ⟨rfl, hwy⟩
            subst hwy
            refine hK.out _ _ hHeld (fun hHeld => ?_)
            clear hK K
            try simp only [Act.put, List.setIfInBounds_toArray, List.set_cons_zero, List.set_cons_succ]
            refine wpAnyH_ready (rs := [14]) (by kernel_rfl) (by simp) ?_
            refine AllReadyH.cons (o := ({ dst := some 62, op := Go.Op.call { callee := Go.Callee.value (Go.Operand.func 35), args := #[Go.Operand.tmp 61], argTypes := #[3] }, type := 3, pos := "ref.go:80", after := #[{ on := 13, ground := Go.Ground.data }, { on := 7, ground := Go.Ground.chain }], guard := none } : Go.Oper)) rfl (fun K hK => ?_) AllReadyH.nil
            go_simp
            refine (hm2 _).mono ?_
            rintro e wy ⟨rfl, hwy⟩
            subst hwy
            refine hK.out _ _ hHeld (fun hHeld => ?_)
            clear hK K
            try simp only [Act.put, List.setIfInBounds_toArray, List.set_cons_zero, List.set_cons_succ]
            refine wpAnyH_take (i := 15) (oi := ({ dst := some 63, op := Go.Op.build 56 #[(0, Go.Operand.tmp 55), (1, Go.Operand.tmp 62)], type := 56, pos := "ref.go:80", after := #[{ on := 7, ground := Go.Ground.data }, { on := 14, ground := Go.Ground.data }], guard := none } : Go.Oper)) (v := .agg #[.int .i64 fr, .int .i64 tt]) rfl (by kernel_rfl) (by kernel_rfl) (by kernel_rfl) (fun _ _ _ h => h) (Or.inl ⟨by rfl, ?_⟩) (by assumption) ?_
            · intro wx hSw
              try dsimp only at hSw
              have u0 := hc0 wx hSw
              go_simp
              try with_reducible rfl
            try simp only [Act.put, List.setIfInBounds_toArray, List.set_cons_zero, List.set_cons_succ]
            refine wpAnyH_ready (rs := [16]) (by kernel_rfl) (by simp) ?_
            refine AllReadyH.cons (o := ({ dst := some 64, op := Go.Op.buildSlice 42 1 #[(0, Go.Operand.tmp 63)], type := 42, pos := "ref.go:80", after := #[{ on := 15, ground := Go.Ground.data }], guard := none } : Go.Oper)) rfl (fun K hK => ?_) AllReadyH.nil
            go_simp
            refine hK.out _ _ (bt hHeld (bel1 _ _)) (fun hHeld => ?_)
            clear hK K
            try simp only [Act.put, List.setIfInBounds_toArray, List.set_cons_zero, List.set_cons_succ]
            refine wpAnyH_ready (rs := [17]) (by kernel_rfl) (by simp) ?_
            refine AllReadyH.cons (o := ({ dst := some 65, op := Go.Op.call { callee := Go.Callee.builtin Go.Builtin.append, args := #[Go.Operand.tmp 48, Go.Operand.tmp 64], argTypes := #[42, 42] }, type := 42, pos := "ref.go:80", after := #[{ on := 0, ground := Go.Ground.data }, { on := 16, ground := Go.Ground.data }, { on := 14, ground := Go.Ground.chain }], guard := none } : Go.Oper)) rfl (fun K hK => ?_) AllReadyH.nil
            refine step_append_str (by rfl) _ _ (by rfl) (by rfl) (by rfl) e1 ?_
            refine hK.out _ _ HB2.out (fun hHeld => ?_)
            clear hK K
            try simp only [Act.put, List.setIfInBounds_toArray, List.set_cons_zero, List.set_cons_succ]
            refine wpAnyH_take (i := 18) (oi := ({ dst := some 5, op := Go.Op.assign (Go.Operand.tmp 65), type := 42, pos := "ref.go:80", after := #[{ on := 17, ground := Go.Ground.data }, { on := 17, ground := Go.Ground.chain }, { on := 0, ground := Go.Ground.phase }, { on := 1, ground := Go.Ground.phase }, { on := 2, ground := Go.Ground.phase }, { on := 3, ground := Go.Ground.phase }, { on := 4, ground := Go.Ground.phase }, { on := 5, ground := Go.Ground.phase }, { on := 6, ground := Go.Ground.phase }, { on := 7, ground := Go.Ground.phase }, { on := 8, ground := Go.Ground.phase }, { on := 9, ground := Go.Ground.phase }, { on := 10, ground := Go.Ground.phase }, { on := 11, ground := Go.Ground.phase }, { on := 12, ground := Go.Ground.phase }, { on := 13, ground := Go.Ground.phase }, { on := 14, ground := Go.Ground.phase }, { on := 15, ground := Go.Ground.phase }, { on := 16, ground := Go.Ground.phase }, { on := 17, ground := Go.Ground.phase }], guard := none } : Go.Oper)) (v := v2) rfl (by kernel_rfl) (by kernel_rfl) (by kernel_rfl) (fun _ _ _ h => h) (Or.inl ⟨by rfl, ?_⟩) (by assumption) ?_
            · intro wx hSw
              try dsimp only at hSw
              have u0 := hc0 wx hSw
              go_simp
              try with_reducible rfl
            try simp only [Act.put, List.setIfInBounds_toArray, List.set_cons_zero, List.set_cons_succ]
            refine wpAnyH_done (by kernel_rfl) ?_ _
            go_wp2
            go_roundw
            case rel => exact ⟨k + 1, by omega, by first | rfl | simp, HF.out.1, ⟨HF.out.2.1, HF.out.2.2⟩, HB2.out⟩
            case measure => first | omega | (simp only [RowKit.intOf]; omega) | (simp [RowKit.intOf]; omega)
    · rw [decide_eq_false hlt]
      have hfin : (strL (psH Q i)).map (numR Q.next) = apartL Q most := by
        unfold apartL
        rcases Nat.lt_or_ge i Q.room with h9 | h9
        · obtain ⟨rr, hrr⟩ := clo_rest HC.out.2 (Nat.le_of_lt h9)
          have h8 : (strL (psH Q i)).length = most.toNat := by have := HC.out.1; have := HN.out; omega
          rw [hrr, ← h8, List.take_left]
        · have h8 : psH Q i = offs Q := by
            rcases Nat.lt_or_ge Q.room i with h7 | h7
            · rw [show i = Q.room + 1 by omega]; exact psH_over Q
            · rw [show i = Q.room by omega]; exact psH_offs Q
          rw [← h8, List.take_of_length_le HC.out.1]
      rw [hfin] at hR
      clear hfin hlt
      go_wp2
      go_ret
      exact ⟨_, rfl, hR, hb⟩
end Go.Proofs.Ytiglaalppaljbaa
