/- The contract of BinarySearchFunc over packets. -/
import Derived.Test.YtcjhniehbafhpaaFd
namespace Go.Proofs.Ytcjhniehbafhpaa
open Go.RowKit Go.Maps
set_option maxRecDepth 100000
set_option linter.unusedVariables false
set_option linter.unusedSimpArgs false

theorem with1_any (q : Pk) (x : Int) (w : World) (h : q.Fine) (hx0 : 0 ≤ x) (hx1 : x ≤ 8191) : Calls Try.prog 54 #[.agg #[.int .i64 q.f, .int .i64 q.t, .int .i64 q.tl, .int .i64 q.pr, .int .i64 q.id, .int .i64 q.fr, .bool q.mo, .bool q.dn, .string q.op, .string q.da], .int .i64 x] w fun e w' => e = .returned (.int .i64 (q.fr - x)) ∧ Below w.heap.size w w' := by
  have h0 := h.f0
  have h1 := h.f1
  have hA := At.box w #[.int .i64 q.f, .int .i64 q.t, .int .i64 q.tl, .int .i64 q.pr, .int .i64 q.id, .int .i64 q.fr, .bool q.mo, .bool q.dn, .string q.op, .string q.da] 32
  have hl := bel1 w (.cells #[.int .i64 q.f, .int .i64 q.t, .int .i64 q.tl, .int .i64 q.pr, .int .i64 q.id, .int .i64 q.fr, .bool q.mo, .bool q.dn, .string q.op, .string q.da] 32)
  obtain ⟨⟨c0, c1, c2, c3, c4, c5, c6, c7, c8, c9⟩, -, -⟩ := hA.ten
  go_enter Try.func54, Try.ntmps54
  go_wp2
  go_ret
  exact ⟨by first | rfl | (simp <;> omega), hl⟩
def Cutp (ps : List Pk) (x : Int) (lo hi : Nat) : Prop := (∀ t q, ps[t]? = some q → t < lo → q.fr < x) ∧ (∀ t q, ps[t]? = some q → hi ≤ t → x ≤ q.fr)
theorem fr_le {ps : List Pk} (hs : ps.Pairwise (fun a b => a.fr ≤ b.fr)) {s t : Nat} {a b : Pk} (ha : ps[s]? = some a) (hb : ps[t]? = some b) (h : s ≤ t) : a.fr ≤ b.fr := by
  obtain ⟨h1, e1⟩ := List.getElem?_eq_some_iff.1 ha
  obtain ⟨h2, e2⟩ := List.getElem?_eq_some_iff.1 hb
  rw [← e1, ← e2]
  rcases Nat.lt_or_ge s t with h' | h'
  · exact List.pairwise_iff_getElem.1 hs s t h1 h2 h'
  · obtain rfl : s = t := by omega
    exact Int.le_refl _
def SP (ps : List Pk) (x : Int) (e : Ending) : Prop := ∃ (i : Nat) (b : Bool), i ≤ ps.length ∧ e = .returned (.tuple #[.int .i64 (i : Int), .bool b]) ∧ Cutp ps x i i
set_option maxHeartbeats 4000000 in
theorem search_any (ps : List Pk) (x : Int) (w : World) (v : Value) (R : Nat) (hr : RW w R v ps) (hn : ps.length ≤ 1000) (hk : ∀ q ∈ ps, q.Fine) (hx0 : 0 ≤ x) (hx1 : x ≤ 8191) (hs : ps.Pairwise (fun a b => a.fr ≤ b.fr)) :
    Calls Try.prog 53 #[v, .int .i64 x, .func (.func 54) #[] #[]] w fun e w' => SP ps x e ∧ Below w.heap.size w w' := by
  obtain ⟨a, c, rfl⟩ := hr.shape
  have HS : Hid (ps.Pairwise (fun a b => a.fr ≤ b.fr)) := hs
  have HK : Hid (∀ q ∈ ps, q.Fine) := hk
  have HR : Hid (RW w R (.slice a ps.length c) ps) := hr
  clear hs hk hr
  go_enter Try.func53, Try.ntmps53
  go_wp2
  go_loopw [9, 10] (fun s9 s10 W => ∃ lo hi : Nat, lo ≤ hi ∧ hi ≤ ps.length ∧ s9 = .int .i64 (lo : Int) ∧ s10 = .int .i64 (hi : Int) ∧ Below w.heap.size w W ∧ Hid (Cutp ps x lo hi)) (fun s9 s10 _ => (intOf s10).toNat - (intOf s9).toNat)
  case atStart => exact ⟨0, ps.length, Nat.zero_le _, Nat.le_refl _, rfl, rfl, Below.refl _ _, ⟨fun t q _ h => absurd h (Nat.not_lt_zero _), fun t q he h => by have := (List.getElem?_eq_some_iff.1 he).1; omega⟩⟩
  case round =>
    obtain ⟨lo, hi, hlh, hin, rfl, rfl, hb, HI⟩ := hrel
    by_cases hlt : lo < hi
    · have hml : (lo + hi) / 2 < ps.length := by omega
      obtain ⟨q, he⟩ : ∃ q, ps[(lo + hi) / 2]? = some q := ⟨_, List.getElem?_eq_getElem hml⟩
      obtain ⟨g, c', cur, hv, -, hbk, -, -, -, h4⟩ := (HR.out.later hb).real (fun e => by rw [e] at hml; cases hml)
      injection hv with e1 e2 e3
      subst e1 e3
      have hcl := row_cell hbk h4 he
      have hq := HK.out q (List.mem_of_getElem? he)
      have hcall := with1_any q x wr hq hx0 hx1
      have hlt' : (lo : Int) < (hi : Int) := by omega
      have hm0 : (0 : Int) ≤ ((lo : Int) + (hi : Int)) / 2 := by omega
      have hm1 : ((lo : Int) + (hi : Int)) / 2 < (ps.length : Int) := by omega
      have r0 := hcl 0 _ rfl
      have r1 := hcl 1 _ rfl
      have r2 := hcl 2 _ rfl
      have r3 := hcl 3 _ rfl
      have r4 := hcl 4 _ rfl
      have r5 := hcl 5 _ rfl
      have r6 := hcl 6 _ rfl
      have r7 := hcl 7 _ rfl
      have r8 := hcl 8 _ rfl
      have r9 := hcl 9 _ rfl
      rw [Nat.add_zero] at r0
      have hq0 := hq.f0
      have hq1 := hq.f1
      clear hcl hbk h4 hq
      have HE : Hid (ps[(lo + hi) / 2]? = some q) := he
      clear he
      go_wp2_with fail
      refine hcall.mono ?_
      rintro e w1 ⟨rfl, l1⟩
      by_cases hc : q.fr - x < 0
      · go_wp2
        go_roundw
        case rel => exact ⟨(lo + hi) / 2 + 1, hi, by omega, hin, by rw [show ((lo : Int) + (hi : Int)) / 2 + 1 = (((lo + hi) / 2 + 1 : Nat) : Int) by omega], rfl, bt hb l1, ⟨fun t y hy ht => by have := fr_le HS.out hy HE.out (by omega); omega, HI.out.2⟩⟩
        case measure => simp [intOf]; omega
      · go_wp2
        go_roundw
        case rel => exact ⟨lo, (lo + hi) / 2, by omega, by omega, rfl, by rw [show ((lo : Int) + (hi : Int)) / 2 = (((lo + hi) / 2 : Nat) : Int) by omega], bt hb l1, ⟨HI.out.1, fun t y hy ht => by have := fr_le HS.out HE.out hy ht; omega⟩⟩
        case measure => simp [intOf]; omega
    · obtain rfl : hi = lo := by omega
      by_cases hend : hi < ps.length
      · obtain ⟨q, he⟩ : ∃ q, ps[hi]? = some q := ⟨_, List.getElem?_eq_getElem hend⟩
        obtain ⟨g, c', cur, hv, -, hbk, -, -, -, h4⟩ := (HR.out.later hb).real (fun e => by rw [e] at hend; cases hend)
        injection hv with e1 e2 e3
        subst e1 e3
        have hcl := row_cell hbk h4 he
        have hq := HK.out q (List.mem_of_getElem? he)
        have hcall := with1_any q x wr hq hx0 hx1
        have hend' : (hi : Int) < (ps.length : Int) := by omega
        have r0 := hcl 0 _ rfl
        have r1 := hcl 1 _ rfl
        have r2 := hcl 2 _ rfl
        have r3 := hcl 3 _ rfl
        have r4 := hcl 4 _ rfl
        have r5 := hcl 5 _ rfl
        have r6 := hcl 6 _ rfl
        have r7 := hcl 7 _ rfl
        have r8 := hcl 8 _ rfl
        have r9 := hcl 9 _ rfl
        rw [Nat.add_zero] at r0
        clear hcl hbk h4 hq he
        go_wp2_with fail
        refine hcall.mono ?_
        rintro e w1 ⟨rfl, l1⟩
        go_wp2
        go_ret2
        exact ⟨⟨hi, _, hin, rfl, HI.out⟩, bt hb l1⟩
      · have hend' : ¬ (hi : Int) < (ps.length : Int) := by omega
        go_wp2
        go_ret2
        exact ⟨⟨hi, _, hin, rfl, HI.out⟩, hb⟩
end Go.Proofs.Ytcjhniehbafhpaa
