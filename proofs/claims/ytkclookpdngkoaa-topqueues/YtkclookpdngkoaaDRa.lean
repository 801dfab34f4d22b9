/- slices.Insert whole; cmp.Compare; BinarySearchFunc of parts. -/
import Derived.Test.YtkclookpdngkoaaDQo
namespace Go.Proofs.Ytkclookpdngkoaa.S
open Go.RowKit Go.Maps Go.Lib
set_option maxRecDepth 100000
set_option linter.unusedVariables false
set_option linter.unusedSimpArgs false


theorem PO.real {w : World} {R : Bk} {v : Value} {ps : List Pt} (h : PO w R v ps) (hn : ps ≠ []) : ∃ g c cur, v = .slice (some ⟨g, 0, none⟩) ps.length c ∧ R g ∧ w.heap[g]? = some (.cells cur 58 (0, 0)) ∧ ps.length ≤ c ∧ c ≤ maxLen ∧ cur.size = c * 2 ∧ cur.toList.take (ps.length * 2) = flatP ps := by
  rcases h.2 with ⟨-, h0⟩ | h'
  · exact absurd (List.length_eq_zero_iff.1 h0) hn
  · exact h'
theorem insert_any (ps : List Pt) (p : Pt) (w : World) (v : Value) (R : Bk) (vb i : Nat) (hr : PO w R v ps) (hV : w.heap[vb]? = some (.cells #[.int .i64 (p.1 : Int), .int .i64 (p.2 : Int)] 58 (0, 0))) (hne : ∀ k, v.ownBlock = some k → k ≠ vb) (hR : UpR R w) (hn : ps.length < 100000) (hi : i ≤ ps.length) :
    Calls Try.prog 46 #[v, .int .i64 (i : Int), .slice (some ⟨vb, 0, none⟩) 1 1] w fun e w' => ∃ v', e = .returned v' ∧ PO w' R v' (insL ps i p) ∧ Turn (fun k => v.ownBlock = some k) w w' := by
  rcases Nat.lt_or_ge i ps.length with hlt | hge
  · obtain ⟨g, c, cur, rfl, hg, hb, h1, h2, h3, h4⟩ := hr.real (fun e => by rw [e] at hlt; cases hlt)
    have hgv : vb ≠ g := fun e => hne g (by simp [Value.ownBlock]) e.symm
    by_cases hroom : ps.length + 1 ≤ c
    · refine (insert_room ps p w g c R vb i cur hb h3 h4 h2 hV hgv hn hlt hroom).mono ?_
      rintro e w' ⟨rfl, cur', k1, k2, k3, k4⟩
      refine ⟨_, rfl, ?_, k4.mono (fun k hk => by subst hk; simp [Value.ownBlock])⟩
      have hins : (insL ps i p).length = ps.length + 1 := by unfold insL; rw [List.length_append, List.length_cons, List.length_take, List.length_drop]; omega
      unfold PO
      rw [hins]
      exact ⟨by rw [flat_len, hins], Or.inr ⟨g, c, cur', rfl, hg, k1, hroom, h2, k2, k3⟩⟩
    · refine (insert_grow ps p w g c R vb i cur hb h3 h4 hV hn hlt h1 (by omega) hR).mono ?_
      rintro e w' ⟨v', rfl, k1, k2, k3⟩
      exact ⟨v', rfl, k1, Turn.of_below k2⟩
  · obtain rfl : i = ps.length := by omega
    refine (insert_end ps p w v R vb hr hV hR hn).mono ?_
    rintro e w' ⟨v', rfl, k1, k2, k3⟩
    refine ⟨v', rfl, ?_, k2⟩
    unfold insL
    rw [List.take_length, List.drop_length]
    exact k1
def cmpV (a b : Int) : Int := if a < b then -1 else if b < a then 1 else 0
theorem nan_any (a : Int) (w : World) : Calls Try.prog 45 #[.int .i64 a] w fun e w' => e = .returned (.bool false) ∧ w' = w := by
  go_enter Try.func45, Try.ntmps45
  go_wp2
  go_ret
  exact ⟨by first | rfl | simp, rfl⟩
theorem compare_any (a b : Int) (w : World) : Calls Try.prog 39 #[.int .i64 a, .int .i64 b] w fun e w' => e = .returned (.int .i64 (cmpV a b)) ∧ w' = w := by
  unfold cmpV
  by_cases h1 : a < b
  · rw [if_pos h1]
    go_enter Try.func39, Try.ntmps39
    go_wp2_with fail
    refine (nan_any a w).mono ?_
    rintro e w1 ⟨rfl, rfl⟩
    go_wp2_with fail
    refine (nan_any b w1).mono ?_
    rintro e w2 ⟨rfl, rfl⟩
    go_wp2
    go_ret
    exact ⟨rfl, rfl⟩
  · rw [if_neg h1]
    by_cases h2 : b < a
    · rw [if_pos h2]
      go_enter Try.func39, Try.ntmps39
      go_wp2_with fail
      refine (nan_any a w).mono ?_
      rintro e w1 ⟨rfl, rfl⟩
      go_wp2_with fail
      refine (nan_any b w1).mono ?_
      rintro e w2 ⟨rfl, rfl⟩
      go_wp2
      go_ret
      exact ⟨rfl, rfl⟩
    · rw [if_neg h2]
      go_enter Try.func39, Try.ntmps39
      go_wp2_with fail
      refine (nan_any a w).mono ?_
      rintro e w1 ⟨rfl, rfl⟩
      go_wp2_with fail
      refine (nan_any b w1).mono ?_
      rintro e w2 ⟨rfl, rfl⟩
      go_wp2
      go_ret
      exact ⟨rfl, rfl⟩
theorem with1_any (q : Pt) (x : Int) (w : World) : Calls Try.prog 38 #[.agg #[.int .i64 (q.1 : Int), .int .i64 (q.2 : Int)], .int .i64 x] w fun e w' => e = .returned (.int .i64 (cmpV (q.2 : Int) x)) ∧ Below w.heap.size w w' := by
  have hA := At.box w #[.int .i64 (q.1 : Int), .int .i64 (q.2 : Int)] 58
  have hl := bel1 w (.cells #[.int .i64 (q.1 : Int), .int .i64 (q.2 : Int)] 58)
  have c1 := (hA.2 1 _ rfl).1
  go_enter Try.func38, Try.ntmps38
  go_wp2_with fail
  refine (compare_any (q.2 : Int) x _).mono ?_
  rintro e w1 ⟨rfl, rfl⟩
  go_wp2
  go_ret
  exact ⟨by first | rfl | (simp <;> omega), hl⟩
def Cutp (ps : List Pt) (x : Int) (lo hi : Nat) : Prop := (∀ t q, ps[t]? = some q → t < lo → (q.2 : Int) < x) ∧ (∀ t q, ps[t]? = some q → hi ≤ t → x ≤ (q.2 : Int))
theorem fr_le {ps : List Pt} (hs : ps.Pairwise (fun a b => a.2 ≤ b.2)) {s t : Nat} {a b : Pt} (ha : ps[s]? = some a) (hb : ps[t]? = some b) (h : s ≤ t) : a.2 ≤ b.2 := by
  obtain ⟨h1, e1⟩ := List.getElem?_eq_some_iff.1 ha
  obtain ⟨h2, e2⟩ := List.getElem?_eq_some_iff.1 hb
  rw [← e1, ← e2]
  rcases Nat.lt_or_ge s t with h' | h'
  · exact List.pairwise_iff_getElem.1 hs s t h1 h2 h'
  · obtain rfl : s = t := by omega
    exact Nat.le_refl _
def SP (ps : List Pt) (x : Int) (e : Ending) : Prop := ∃ (i : Nat) (b : Bool), i ≤ ps.length ∧ e = .returned (.tuple #[.int .i64 (i : Int), .bool b]) ∧ Cutp ps x i i
theorem cmpV_neg {a b : Int} : cmpV a b < 0 ↔ a < b := by unfold cmpV; split <;> (try split) <;> omega
set_option maxHeartbeats 4000000 in
theorem search_any (ps : List Pt) (x : Int) (w : World) (v : Value) (R : Bk) (hr : PO w R v ps) (hn : ps.length ≤ 100000) (hs : ps.Pairwise (fun a b => a.2 ≤ b.2)) :
    Calls Try.prog 37 #[v, .int .i64 x, .func (.func 38) #[] #[]] w fun e w' => SP ps x e ∧ Below w.heap.size w w' := by
  obtain ⟨a, c, rfl, -⟩ := hr.shape
  have HS : Hid (ps.Pairwise (fun a b => a.2 ≤ b.2)) := hs
  have HR : Hid (PO w R (.slice a ps.length c) ps) := hr
  clear hs hr
  go_enter Try.func37, Try.ntmps37
  go_wp2
  go_loopw [9, 10] (fun s9 s10 W => ∃ lo hi : Nat, lo ≤ hi ∧ hi ≤ ps.length ∧ s9 = .int .i64 (lo : Int) ∧ s10 = .int .i64 (hi : Int) ∧ Below w.heap.size w W ∧ Hid (Cutp ps x lo hi)) (fun s9 s10 _ => (RowKit.intOf s10).toNat - (RowKit.intOf s9).toNat)
  case atStart => exact ⟨0, ps.length, Nat.zero_le _, Nat.le_refl _, rfl, rfl, Below.refl _ _, ⟨fun t q _ h => absurd h (Nat.not_lt_zero _), fun t q he h => by have := (List.getElem?_eq_some_iff.1 he).1; omega⟩⟩
  case round =>
    obtain ⟨lo, hi, hlh, hin, rfl, rfl, hb, HI⟩ := hrel
    by_cases hlt : lo < hi
    · have hml : (lo + hi) / 2 < ps.length := by omega
      obtain ⟨q, he⟩ : ∃ q, ps[(lo + hi) / 2]? = some q := ⟨_, List.getElem?_eq_getElem hml⟩
      have hrl := row_later HR.out hb
      obtain ⟨g, c', cur, hv, -, hbk, -, -, -, h4⟩ := PO.real hrl (fun e => by rw [e] at hml; cases hml)
      injection hv with e1 e2 e3
      subst e1 e3
      obtain ⟨r0, r1⟩ := PO.cell hrl he
      have hcall := with1_any q x wr
      have hlt' : (lo : Int) < (hi : Int) := by omega
      have hm0 : (0 : Int) ≤ ((lo : Int) + (hi : Int)) / 2 := by omega
      have hm1 : ((lo : Int) + (hi : Int)) / 2 < (ps.length : Int) := by omega
      clear hbk h4 hrl
      have HE : Hid (ps[(lo + hi) / 2]? = some q) := he
      clear he
      go_wp2_with fail
      refine hcall.mono ?_
      rintro e w1 ⟨rfl, l1⟩
      have hcn := @cmpV_neg (q.2 : Int) x
      generalize cmpV (q.2 : Int) x = cv at *
      by_cases hc : cv < 0
      · have hq := hcn.1 hc
        clear hcn
        go_wp2
        go_roundw
        case rel => exact ⟨(lo + hi) / 2 + 1, hi, by omega, hin, by rw [show ((lo : Int) + (hi : Int)) / 2 + 1 = (((lo + hi) / 2 + 1 : Nat) : Int) by omega], rfl, bt hb l1, ⟨fun t y hy ht => by have := fr_le HS.out hy HE.out (by omega); omega, HI.out.2⟩⟩
        case measure => simp [RowKit.intOf]; omega
      · have hq : ¬ (q.2 : Int) < x := fun h => hc (hcn.2 h)
        clear hcn
        go_wp2
        go_roundw
        case rel => exact ⟨lo, (lo + hi) / 2, by omega, by omega, rfl, by rw [show ((lo : Int) + (hi : Int)) / 2 = (((lo + hi) / 2 : Nat) : Int) by omega], bt hb l1, ⟨HI.out.1, fun t y hy ht => by have := fr_le HS.out HE.out hy ht; omega⟩⟩
        case measure => simp [RowKit.intOf]; omega
    · obtain rfl : hi = lo := by omega
      by_cases hend : hi < ps.length
      · obtain ⟨q, he⟩ : ∃ q, ps[hi]? = some q := ⟨_, List.getElem?_eq_getElem hend⟩
        have hrl := row_later HR.out hb
        obtain ⟨g, c', cur, hv, -, hbk, -, -, -, h4⟩ := PO.real hrl (fun e => by rw [e] at hend; cases hend)
        injection hv with e1 e2 e3
        subst e1 e3
        obtain ⟨r0, r1⟩ := PO.cell hrl he
        have hcall := with1_any q x wr
        have hend' : (hi : Int) < (ps.length : Int) := by omega
        clear hbk h4 he hrl
        go_wp2_with fail
        refine hcall.mono ?_
        rintro e w1 ⟨rfl, l1⟩
        go_wp2
        go_ret2
        exact ⟨⟨hi, _, hin, rfl, HI.out⟩, bt hb l1⟩
      · have hend' : ¬ (hi : Int) < (ps.length : Int) := by omega
        go_wp2
        go_ret2
        exact ⟨⟨hi, _, hin, rfl, HI.out⟩, hb⟩
end Go.Proofs.Ytkclookpdngkoaa.S
