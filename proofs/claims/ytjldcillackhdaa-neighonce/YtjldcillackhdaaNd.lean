/- Look, moveTo, isOwn, isOfUse, learn, release, question. -/
import Derived.Test.YtjldcillackhdaaNc
namespace Go.Proofs.Ytjldcillackhdaa
open Go.RowKit Go.Maps Go.Proofs.Ytjldcillackhdaa.Eth Go.Proofs.Ytjldcillackhdaa.Eth.Arp
set_option maxRecDepth 100000
set_option linter.unusedVariables false
set_option linter.unusedSimpArgs false

def tv (p : Int × Int) : Value := .agg #[.int .i64 p.1, .int .i64 p.2]
abbrev Sl := Option Addr × Nat × Nat
def av (p : Int × Bool × Sl) : Value := .agg #[.int .i64 p.1, .bool p.2.1, .slice p.2.2.1 p.2.2.2.1 p.2.2.2.2]
/-- Block M is what is known: of an address the hardware address, and when it was told. -/
def KM (w : World) (M : Nat) (gk : Int → Option (Int × Int)) : Prop := ∃ kl, VM w M kl ∧ ∀ k, vlk kl k = (gk k).map tv
/-- Block A is who is asked for. -/
def AM (w : World) (A : Nat) (ga : Int → Option (Int × Bool × Sl)) : Prop := ∃ al, VM w A al ∧ ∀ k, vlk al k = (ga k).map av
theorem KM.turn {S : Nat → Prop} {w w' : World} {M : Nat} {gk : Int → Option (Int × Int)} (h : KM w M gk) (ht : Turn S w w') (hs : ¬ S M) : KM w' M gk := by
  obtain ⟨kl, h1, h2⟩ := h
  exact ⟨kl, h1.turn ht hs, h2⟩
theorem KM.later {w w' : World} {M : Nat} {gk : Int → Option (Int × Int)} (h : KM w M gk) (hb : Below w.heap.size w w') : KM w' M gk := h.turn (S := fun _ => False) (Turn.of_below hb) (fun h => h)
theorem AM.turn {S : Nat → Prop} {w w' : World} {A : Nat} {ga : Int → Option (Int × Bool × Sl)} (h : AM w A ga) (ht : Turn S w w') (hs : ¬ S A) : AM w' A ga := by
  obtain ⟨al, h1, h2⟩ := h
  exact ⟨al, h1.turn ht hs, h2⟩
theorem AM.later {w w' : World} {A : Nat} {ga : Int → Option (Int × Bool × Sl)} (h : AM w A ga) (hb : Below w.heap.size w w') : AM w' A ga := h.turn (S := fun _ => False) (Turn.of_below hb) (fun h => h)
theorem KM.lt {w : World} {M : Nat} {gk : Int → Option (Int × Int)} (h : KM w M gk) : M < w.heap.size := by obtain ⟨kl, h1, -⟩ := h; exact h1.lt
theorem AM.lt {w : World} {A : Nat} {ga : Int → Option (Int × Bool × Sl)} (h : AM w A ga) : A < w.heap.size := by obtain ⟨kl, h1, -⟩ := h; exact h1.lt
theorem KM.nil {w : World} {M : Nat} (h : VM w M []) : KM w M (fun _ => none) := ⟨[], h, fun _ => rfl⟩
theorem AM.nil {w : World} {A : Nat} (h : VM w A []) : AM w A (fun _ => none) := ⟨[], h, fun _ => rfl⟩
theorem rise_len : ∀ (d : Nat) (lo : Int) (l : List Vn), VRise l → (∀ e ∈ l, lo ≤ e.1 ∧ e.1 < lo + d) → l.length ≤ d
  | d, lo, [], _, _ => Nat.zero_le _
  | 0, lo, y :: r, _, h => by have := h y (List.mem_cons_self ..); omega
  | d + 1, lo, y :: r, hr, h => by
    have hy := List.pairwise_cons.1 hr
    have h0 := h y (List.mem_cons_self ..)
    have := rise_len d (lo + 1) r hy.2 (fun e he => by
      have h1 := hy.1 e he
      have h2 := h e (List.mem_cons_of_mem _ he)
      omega)
    simp; omega
theorem vm_keys {kl : List Vn} {g : Int → Option Value} (hr : VRise kl) (hv : ∀ k, vlk kl k = g k) {lo : Int} {d : Nat} (h : ∀ k, (g k).isSome = true → lo ≤ k ∧ k < lo + d) : kl.length ≤ d :=
  rise_len d lo kl hr (fun e he => h e.1 (by rw [← hv, vlk_of hr (v := e.2) he]; rfl))
theorem zeroT (w : World) : (zeroValue 70).run Try.prog w = .ok (tv (0, 0)) w := by kernel_rfl
theorem zeroQ (w : World) : (zeroValue 78).run Try.prog w = .ok (av (0, false, none, 0, 0)) w := by kernel_rfl
def lookF (gk : Int → Option (Int × Int)) (ag k now : Int) : Int × Bool :=
  match gk k with
  | some p => if p.2 + ag ≤ now then (0, false) else (p.1, true)
  | none => (0, false)
def okT (gk : Int → Option (Int × Int)) : Prop := ∀ k p, gk k = some p → (0 ≤ p.1 ∧ p.1 ≤ 281474976710655) ∧ 0 ≤ p.2 ∧ p.2 ≤ 1099511627776
set_option maxHeartbeats 1000000 in
theorem look_any (C M A : Nat) (mac ag pa ro wa la wt : Int) (ow : Value) (gk : Int → Option (Int × Int)) (k now : Int) (w : World) (hC : At w C (cV mac ag pa ro wa ow la M A wt)) (hM : KM w M gk) (hok : okT gk) (hg : 1 ≤ ag ∧ ag ≤ 1048576) (hk : (Lit.int .i64 k).wf = true) :
    Calls Try.prog 14 #[.pointer (some ⟨C, 0, none⟩), .int .i64 k, .int .i64 now] w fun e w' => e = .returned (.tuple #[.int .i64 (lookF gk ag k now).1, .bool (lookF gk ag k now).2]) ∧ Below w.heap.size w w' := by
  obtain ⟨kl, hV, hv⟩ := hM
  have hvk := hv k
  have c7 : w.cell? ⟨C, 7, none⟩ = some (.map (some M)) := (hC.2 7 _ rfl).1
  clear hv
  cases hgk : gk k with
  | none =>
    rw [hgk, Option.map_none] at hvk
    have hR : lookF gk ag k now = (0, false) := by unfold lookF; rw [hgk]
    have hb1 := bel1 w (.cells #[.int .i64 0, .int .i64 0] 70)
    go_enter Try.func14, Try.ntmps14
    go_upto_region 2 with (first
      | (at_lookup; refine wpList_lookup_vm rfl _ _ rfl M kl k hk Try.underlying61 zeroT rfl hV rfl ?_; rw [hvk, Option.getD_none, Option.isSome_none, show tv (0, 0) = .agg #[.int .i64 0, .int .i64 0] from rfl])
      | go_in)
    generalize w.alloc (.cells #[.int .i64 0, .int .i64 0] 70) = w1 at *
    go_quiet (fail)
    go_wp2
    go_ret2
    try rw [hR]
    exact ⟨rfl, below_drewN hb1 _⟩
  | some p =>
    rw [hgk, Option.map_some] at hvk
    obtain ⟨m, t⟩ := p
    obtain ⟨-, ht0, ht1⟩ := hok k _ hgk
    have hR : lookF gk ag k now = if t + ag ≤ now then (0, false) else (m, true) := by unfold lookF; rw [hgk]
    have hb1 := bel1 w (.cells #[.int .i64 m, .int .i64 t] 70)
    have hH := At.box w #[.int .i64 m, .int .i64 t] 70
    have hC1 := hC.later hb1
    have hwr : IntKind.i64.wrap (t + ag) = t + ag := by rw [IntKind.wrap_i64]; dsimp only at ht0 ht1; omega
    go_enter Try.func14, Try.ntmps14
    go_upto_region 2 with (first
      | (at_lookup; refine wpList_lookup_vm rfl _ _ rfl M kl k hk Try.underlying61 zeroT rfl hV rfl ?_; rw [hvk, Option.getD_some, Option.isSome_some, show tv (m, t) = .agg #[.int .i64 m, .int .i64 t] from rfl])
      | go_in)
    generalize w.alloc (.cells #[.int .i64 m, .int .i64 t] 70) = w1 at *
    have d0 : w1.cell? ⟨w.heap.size, 0, none⟩ = some (.int .i64 m) := (hH.2 0 _ rfl).1
    have d1 : w1.cell? ⟨w.heap.size, 1, none⟩ = some (.int .i64 t) := (hH.2 1 _ rfl).1
    have e1 : w1.cell? ⟨C, 1, none⟩ = some (.int .i64 ag) := (hC1.2 1 _ rfl).1
    by_cases ho : t + ag ≤ now
    · rw [if_pos ho] at hR
      go_quiet (fail)
      go_wp2
      go_ret2
      try rw [hR]
      exact ⟨rfl, below_drewN hb1 _⟩
    · rw [if_neg ho] at hR
      go_quiet (fail)
      go_wp2
      go_ret2
      try rw [hR]
      exact ⟨rfl, below_drewN hb1 _⟩
theorem move_t (C M A : Nat) (mac ag pa ro wa la wt : Int) (ow : Value) (now : Int) (w : World) (hC : At w C (cV mac ag pa ro wa ow la M A wt)) (h : la ≤ now ∧ now ≤ 1099511627776) :
    Calls Try.prog 21 #[.pointer (some ⟨C, 0, none⟩), .int .i64 now] w fun e w' => e = .returned (.bool true) ∧ At w' C (cV mac ag pa ro wa ow now M A wt) ∧ Turn (fun k => k = C) w w' := by
  have c6 : w.cell? ⟨C, 6, none⟩ = some (.int .i64 la) := (hC.2 6 _ rfl).1
  have f6 : w.frozen? ⟨C, 6, none⟩ = false := (hC.2 6 _ rfl).2
  have h1 : ¬ now < la := by omega
  have h2 : ¬ 1099511627776 < now := by omega
  go_enter Try.func21, Try.ntmps21
  go_wp2
  go_ret
  exact ⟨rfl, hC.set 6 _, turn_set w C 6 _⟩
theorem isown_any (C M A g n c : Nat) (mac ag pa ro wa la wt : Int) (base : Nat) (zs : List Int) (x : Int) (w : World) (hC : At w C (cV mac ag pa ro wa (.slice (some ⟨g, 0, none⟩) n c) la M A wt)) (hO : Ints w base (.slice (some ⟨g, 0, none⟩) n c) zs) (hs : zs.Pairwise (· ≤ ·)) (hn : zs.length < 1000000) (cb : Bool) (hcb : zs.contains x = cb) :
    Calls Try.prog 24 #[.pointer (some ⟨C, 0, none⟩), .int .i64 x] w fun e w' => e = .returned (.bool cb) ∧ ∃ q, w' = w.drewN q := by
  have c5 : w.cell? ⟨C, 5, none⟩ = some (.slice (some ⟨g, 0, none⟩) n c) := (hC.2 5 _ rfl).1
  go_enter Try.func24, Try.ntmps24
  go_wp2_with fail
  refine (search_any base g n c zs x w hO hs hn).mono ?_
  rintro e w1 ⟨rfl, q, rfl⟩
  rw [hcb]
  clear hcb
  generalize zs.countP (fun y => decide (y < x)) = cn at *
  go_wp2
  go_ret
  exact ⟨rfl, q, rfl⟩
theorem ofuse_any (C M A : Nat) (mac ag pa ro wa la wt : Int) (ow : Value) (gk : Int → Option (Int × Int)) (ga : Int → Option (Int × Bool × Sl)) (k now : Int) (w : World) (hC : At w C (cV mac ag pa ro wa ow la M A wt)) (hM : KM w M gk) (hA : AM w A ga) (hok : okT gk) (hg : 1 ≤ ag ∧ ag ≤ 1048576) (hk : (Lit.int .i64 k).wf = true) :
    Calls Try.prog 25 #[.pointer (some ⟨C, 0, none⟩), .int .i64 k, .int .i64 now] w fun e w' => e = .returned (.bool ((lookF gk ag k now).2 || (ga k).isSome)) ∧ Below w.heap.size w w' := by
  obtain ⟨al, hV, hv⟩ := hA
  have hvk := hv k
  clear hv
  go_enter Try.func25, Try.ntmps25
  go_wp2_with fail
  refine (look_any C M A mac ag pa ro wa la wt ow gk k now w hC hM hok hg hk).mono ?_
  rintro e w1 ⟨rfl, hb1⟩
  have hV1 := hV.later hb1
  have c8 : w1.cell? ⟨C, 8, none⟩ = some (.map (some A)) := ((hC.later hb1).2 8 _ rfl).1
  obtain ⟨lf, hlf⟩ : ∃ y, lookF gk ag k now = y := ⟨_, rfl⟩
  rw [hlf]
  have HL : Hid (lookF gk ag k now = lf) := hlf
  clear hlf
  obtain ⟨lm, lb⟩ := lf
  cases hgk : ga k with
  | none =>
    rw [hgk, Option.map_none] at hvk
    go_upto_region 3 with (first
      | (at_lookup; refine wpList_lookup_vm rfl _ _ rfl A al k hk Try.underlying62 zeroQ rfl hV1 rfl ?_; rw [hvk, Option.getD_none, Option.isSome_none, show av (0, false, none, 0, 0) = .agg #[.int .i64 0, .bool false, .slice none 0 0] from rfl])
      | go_in)
    have hb2 := bt hb1 (bel1 w1 (.cells #[.int .i64 0, .bool false, .slice none 0 0] 78))
    cases lb
    all_goals
      go_wp2
      go_ret
      refine ⟨?_, hb2⟩
      rw [HL.out]
      first | rfl | (rw [hgk]; rfl)
  | some p =>
    obtain ⟨qa, qb, qp, qn, qc⟩ := p
    rw [hgk, Option.map_some] at hvk
    go_upto_region 3 with (first
      | (at_lookup; refine wpList_lookup_vm rfl _ _ rfl A al k hk Try.underlying62 zeroQ rfl hV1 rfl ?_; rw [hvk, Option.getD_some, Option.isSome_some, show av (qa, qb, qp, qn, qc) = .agg #[.int .i64 qa, .bool qb, .slice qp qn qc] from rfl])
      | go_in)
    have hb2 := bt hb1 (bel1 w1 (.cells #[.int .i64 qa, .bool qb, .slice qp qn qc] 78))
    cases lb
    all_goals
      go_wp2
      go_ret
      refine ⟨?_, hb2⟩
      rw [HL.out]
      first | rfl | (rw [hgk]; rfl)
end Go.Proofs.Ytjldcillackhdaa
