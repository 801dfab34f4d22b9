/- the texts KLa, KLb, KLc, KLe, in part, merged by program -/
import Derived.Test.YthjbmloemmggaaaGreatDoorProg
import Derived.Test.YthjbmloemmggaaaGreatDoorRows
import Derived.WalkKit
import Derived.WalkSpells
import Derived.Maps.RangeWalk
import Derived.Maps.OwnSet
import Derived.Maps.Ext
import Derived.Maps.Keyed
import Derived.DeepKeys4
import Derived.WalkSmall
import Derived.Deep.Cut
import Derived.Deep.CutRange
import Derived.Deep.MidRow
import Derived.Deep.QuietTactic
import Derived.BigQuiet
import Derived.Deep.RegionWith
import Derived.OwnWalk
import Derived.Laws.CopyRow
import Derived.Shelf.Spec.SlicesInsert
import Derived.Lib.AppendZerosOnto
import Derived.Maps.AppendAt
import Derived.Lib.Overlaps
import Derived.Shelf.Strings.BuilderK
import Derived.Laws.OwnMore
import Derived.Laws.AppendOwn
import Derived.Laws.AppendOwnNone
import Derived.Carry
import Derived.Deep.RegionHeld3
import Derived.LoopN
import Derived.RegionTactic
import Derived.Below
import Derived.Laws.Tables
import Derived.Great.BuildSlice
import Derived.Deep.LoopGhost
import Derived.Lib.Repeat
import Derived.Laws.StructEq
import Derived.BigRegion
import Derived.Deep.Light
import Derived.LaidEql
import Derived.Stop.Asserts
import Derived.RowKitTokens
import Derived.Recover
import Derived.RangeFuncBox
import Derived.OwnWalkIn
import Derived.TacticsInMore
import Derived.LoopNIn
import Derived.LoopIn
import Derived.Shelf.RegionOpen
import Derived.OrdersIn
import Derived.RangeFuncCalls
import Derived.RangeFuncNested
import Derived.RangeFuncLeaves
import Derived.Shelf.Abstract
import Derived.Lib.SliceRun
import Derived.Test.YthjbmloemmggaaaGreatDoorMA01
import Derived.Test.YthjbmloemmggaaaGreatDoorMA02
import Derived.Test.YthjbmloemmggaaaGreatDoorMA03
import Derived.Test.YthjbmloemmggaaaGreatDoorMA04
import Derived.Test.YthjbmloemmggaaaGreatDoorMA05
import Derived.Test.YthjbmloemmggaaaGreatDoorMA06
import Derived.Test.YthjbmloemmggaaaGreatDoorMA07
import Derived.Test.YthjbmloemmggaaaGreatDoorMA08
import Derived.Test.YthjbmloemmggaaaGreatDoorMA09
import Derived.Test.YthjbmloemmggaaaGreatDoorMA10
import Derived.Test.YthjbmloemmggaaaGreatDoorMA11
import Derived.Test.YthjbmloemmggaaaGreatDoorMA12
import Derived.Test.YthjbmloemmggaaaGreatDoorMA13
import Derived.Test.YthjbmloemmggaaaGreatDoorMA14
import Derived.Test.YthjbmloemmggaaaGreatDoorMA15
import Derived.Test.YthjbmloemmggaaaGreatDoorMA16
import Derived.Test.YthjbmloemmggaaaGreatDoorMA17
import Derived.Test.YthjbmloemmggaaaGreatDoorMA18
import Derived.Test.YthjbmloemmggaaaGreatDoorMA19
import Derived.Test.YthjbmloemmggaaaGreatDoorMA20
import Derived.Test.YthjbmloemmggaaaGreatDoorMA21
import Derived.Test.YthjbmloemmggaaaGreatDoorMA22
import Derived.Test.YthjbmloemmggaaaGreatDoorMA23
import Derived.Test.YthjbmloemmggaaaGreatDoorMA24
import Derived.Test.YthjbmloemmggaaaGreatDoorMA25
namespace Go.Proofs.YthjbmloemmggaaaGreatDoor.Ip
open Go.RowKit Go.Maps
set_option maxRecDepth 100000
set_option linter.unusedVariables false
set_option linter.unusedSimpArgs false

def Locs (w : World) (l l' : List Pile) : Prop := ∀ y ∈ l', ∀ k, y.v.ownBlock = some k → (∃ x ∈ l, x.v.ownBlock = some k) ∨ w.heap.size ≤ k
theorem tp_fin2 {P : List Pile → Prop} {w w' : World} {R B M : Nat} {ro pa la now tu tu' : Int} {l : List Pile} (hBX : BX w R B M ro pa la tu l) {Φ : World → World → Prop} (h : TP w w' R B M ro pa now tu l Φ) (hΦ : ∀ W W', BX W R B M ro pa now tu l → Φ W W' → Turn (FL B M l) W W' ∧ ∃ L, P L ∧ BX W' R B M ro pa now tu' L ∧ ∀ y ∈ L, ∀ k, y.v.ownBlock = some k → (∃ x ∈ l, x.v.ownBlock = some k) ∨ W.heap.size ≤ k) : (∃ L, P L ∧ BX w' R B M ro pa now tu' L ∧ Locs w l L) ∧ Turn (FL B M l) w w' := by
  obtain ⟨W, W', hW, ht1, hs, hφ, ht2⟩ := h
  obtain ⟨ht, L, hL, hB, hloc⟩ := hΦ W W' hW hφ
  have hRw := hBX.rw'
  have hbR := hBX.bR
  have hmR := hBX.mR
  have hs1 := ht1.size
  refine ⟨⟨L, hL, hB.turn ht2 (by omega) (by omega) (fun y hy k hk e => ?_), fun y hy k hk => ?_⟩, ?_⟩
  · rcases hloc y hy k hk with ⟨x, hx, h⟩ | h
    · have := (hBX.ok x hx).row.lt k h; omega
    · omega
  · rcases hloc y hy k hk with h | h
    · exact Or.inl h
    · exact Or.inr (by omega)
  · exact ((ht1.mono (S' := FL B M l) (fun k e => Or.inl e)).trans ht).step ht2 (fun k e => Or.inr (by omega))
def OneL (w : World) (R B M : Nat) (ro pa la tu : Int) (m : Mk) (ps : List Pk) (l : List Pile) : Prop := BX w R B M ro pa la tu l ∧ ((ps = [] ∧ l = []) ∨ (ps ≠ [] ∧ ∃ at_ tx v, l = [⟨m, at_, tx, v, ps⟩]))
section
variable {p : Pk} {Q N : Nat} (h : Cx p Q N)
include h
theorem more3 {S : List Nat} {k x : Nat} (hk : k ≤ N) (hn : k ∉ S) (hx : x ≤ N) (hxk : x ≠ k) (hxS : x ∉ S) (hS : S.Pairwise (· < ·)) (hSN : ∀ s ∈ S, s ≤ N) (hl : S.length < 64) {w : World} {R B M : Nat} {ro pa la tu : Int} {l : List Pile} (hO : OneL w R B M ro pa la tu (mk p) (S.map (pc p Q N)) l) (hro : 1 ≤ ro) (hro2 : ro ≤ 64) (htu0 : 0 ≤ tu) (htu1 : tu ≤ 100000) (now : Int) (hn1 : la ≤ now) (hn2 : now ≤ 1099511627776) :
    Calls Tryz.prog 14 #[.pointer (some ⟨B, 0, none⟩), .agg #[.int .i64 (pc p Q N k).f, .int .i64 (pc p Q N k).t, .int .i64 (pc p Q N k).tl, .int .i64 (pc p Q N k).pr, .int .i64 (pc p Q N k).id, .int .i64 (pc p Q N k).fr, .bool (pc p Q N k).mo, .bool (pc p Q N k).dn, .string (pc p Q N k).op, .string (pc p Q N k).da], .int .i64 now] w fun e w' => e = .returned (.tuple #[.agg #[.int .i64 0, .int .i64 0, .int .i64 0, .int .i64 0, .int .i64 0, .int .i64 0, .bool false, .bool false, .string ⟨#[]⟩, .string ⟨#[]⟩], .bool false, .int .i64 0]) ∧ (∃ (T : List Nat) (tu' : Int) (l' : List Pile), T.Pairwise (· < ·) ∧ (∀ y, y ∈ T ↔ y = k ∨ y ∈ S) ∧ (tu' = tu ∨ tu' = tu + 1) ∧ OneL w' R B M ro pa now tu' (mk p) (T.map (pc p Q N)) l' ∧ Locs w l l') ∧ Turn (FL B M l) w w' := by
  have key : ∀ i, Cutp (S.map (pc p Q N)) (pc p Q N k).fr i i → completeB (insL (S.map (pc p Q N)) i (pc p Q N k)) = false := fun i hc => by
    rw [ins_map]
    exact not_all h (insN_rise h hS hn hc) (fun t ht => (insN_mem.1 ht).elim (fun e => by omega) (fun e => hSN t e)) hx (fun e => (insN_mem.1 e).elim (fun e => hxk e) (fun e => hxS e))
  rcases hO with ⟨hB, ⟨e, rfl⟩ | ⟨hne, at_, tx, v, rfl⟩⟩
  · rw [List.map_eq_nil_iff] at e
    subst e
    have hf := fits_pc h hk hSN hn (by decide)
    have hc0 : completeB [pc p Q N k] = false := key 0 ⟨fun t q hq => by simp at hq, fun t q hq => by simp at hq⟩
    refine (take_no (pc p Q N k) (pc_may h hk) w R B M ro pa la tu _ hB now hn1 hn2 (pc_part h hk) _ (fun W hW => lay_new (pc p Q N k) (may_fine (pc_may h hk)) (may_wf (pc_may h hk)) W R B M ro pa now tu [] hW (by simp) (by simp; omega) hro2 htu0 (by omega) hf hc0) (fun W W' _ h => by obtain ⟨_, _, _, _, _, h, _⟩ := h; exact h)).mono ?_
    rintro e w' ⟨rfl, hT⟩
    obtain ⟨⟨L, ⟨v', hL⟩, hB', hlc⟩, ht⟩ := tp_fin2 (tu' := tu + 1) (P := fun L => ∃ v', L = [⟨mk (pc p Q N k), now, tu + 1, v', [pc p Q N k]⟩]) hB hT (fun W W' _ hφ => by
      obtain ⟨v', i, hi, hcut, hb, htt, hlo⟩ := hφ
      obtain rfl : i = 0 := by simpa using hi
      exact ⟨htt, _, ⟨v', rfl⟩, hb, fun y hy j hj => by simp at hy; rw [hy] at hj; exact hlo j hj⟩)
    subst hL
    rw [pc_mk h] at hB' hlc
    exact ⟨rfl, ⟨[k], tu + 1, _, List.pairwise_singleton _ _, fun y => by simp, Or.inr rfl, ⟨hB', Or.inr ⟨by simp, now, tu + 1, v', rfl⟩⟩, hlc⟩, ht⟩
  · have hf := fits_pc h hk hSN hn hl
    have hh : (S.map (pc p Q N)).any (hasB (pc p Q N k)) = false := by rw [any_has h]; exact decide_eq_false hn
    rw [← pc_mk h k] at hB ⊢
    refine (take_no (pc p Q N k) (pc_may h hk) w R B M ro pa la tu _ hB now hn1 hn2 (pc_part h hk) _ (fun W hW => lay_more (pc p Q N k) (may_fine (pc_may h hk)) (may_wf (pc_may h hk)) W R B M ro pa now tu [] [] at_ tx v _ hW hne (by simp) hh hf (fun i _ hc => key i hc)) (fun W W' _ h => by obtain ⟨_, _, _, _, _, h, _⟩ := h; exact h)).mono ?_
    rintro e w' ⟨rfl, hT⟩
    obtain ⟨⟨L, ⟨v', i, hcut, hL⟩, hB', hlc⟩, ht⟩ := tp_fin2 (tu' := tu) (P := fun L => ∃ v' i, Cutp (S.map (pc p Q N)) (pc p Q N k).fr i i ∧ L = [⟨mk (pc p Q N k), at_, tx, v', insL (S.map (pc p Q N)) i (pc p Q N k)⟩]) hB hT (fun W W' _ hφ => by
      obtain ⟨v', i, hi, hcut, hb, htt, hlo⟩ := hφ
      exact ⟨htt, _, ⟨v', i, hcut, rfl⟩, hb, fun y hy j hj => by simp at hy; rw [hy] at hj; exact hlo j hj⟩)
    subst hL
    rw [ins_map] at hB' hlc
    refine ⟨rfl, ⟨insN S i k, tu, _, insN_rise h hS hn hcut, fun y => insN_mem, Or.inl rfl, ⟨hB', Or.inr ⟨?_, at_, tx, v', rfl⟩⟩, hlc⟩, ht⟩
    intro e
    rw [List.map_eq_nil_iff] at e
    have := (insN_mem (S := S) (i := i) (k := k) (x := k)).2 (Or.inl rfl)
    rw [e] at this
    cases this
theorem last3 {S : List Nat} {k : Nat} (hk : k ≤ N) (hn : k ∉ S) (hall : ∀ x, x ≤ N → x ≠ k → x ∈ S) (hS : S.Pairwise (· < ·)) (hSN : ∀ s ∈ S, s ≤ N) (hl : S.length < 64) {w : World} {R B M : Nat} {ro pa la tu : Int} {l : List Pile} (hO : OneL w R B M ro pa la tu (mk p) (S.map (pc p Q N)) l) (now : Int) (hn1 : la ≤ now) (hn2 : now ≤ 1099511627776) :
    Calls Tryz.prog 14 #[.pointer (some ⟨B, 0, none⟩), .agg #[.int .i64 (pc p Q N k).f, .int .i64 (pc p Q N k).t, .int .i64 (pc p Q N k).tl, .int .i64 (pc p Q N k).pr, .int .i64 (pc p Q N k).id, .int .i64 (pc p Q N k).fr, .bool (pc p Q N k).mo, .bool (pc p Q N k).dn, .string (pc p Q N k).op, .string (pc p Q N k).da], .int .i64 now] w fun e w' => e = .returned (.tuple #[.agg #[.int .i64 p.f, .int .i64 p.t, .int .i64 p.tl, .int .i64 p.pr, .int .i64 p.id, .int .i64 p.fr, .bool p.mo, .bool p.dn, .string p.op, .string p.da], .bool true, .int .i64 0]) ∧ OneL w' R B M ro pa now tu (mk p) [] [] ∧ Turn (FL B M l) w w' := by
  have key : ∀ i, Cutp (S.map (pc p Q N)) (pc p Q N k).fr i i → completeB (insL (S.map (pc p Q N)) i (pc p Q N k)) = true ∧ (insL (S.map (pc p Q N)) i (pc p Q N k))[0]? = some (pc p Q N 0) ∧ catL (insL (S.map (pc p Q N)) i (pc p Q N k)) = p.da.data.toList := fun i hc => by
    rw [ins_map]
    refine all_done h ?_
    rw [List.range_eq_range']
    exact all_range _ 0 (insN_rise h hS hn hc) (fun t ht => ⟨Nat.zero_le _, (insN_mem.1 ht).elim (fun e => by omega) (fun e => hSN t e)⟩) (fun x _ hx => insN_mem.2 (if e : x = k then Or.inl e else Or.inr (hall x hx e)))
  have hne : S.map (pc p Q N) ≠ [] := fun e => by
    rw [List.map_eq_nil_iff] at e
    have h1 := h.n1
    have : ∃ x, x ≤ N ∧ x ≠ k := by
      by_cases e : k = 0
      · exact ⟨1, h1, by omega⟩
      · exact ⟨0, Nat.zero_le _, by omega⟩
    obtain ⟨x, hx, hxk⟩ := this
    have := hall x hx hxk
    rw [e] at this
    cases this
  rcases hO with ⟨hB, ⟨e, rfl⟩ | ⟨-, at_, tx, v, rfl⟩⟩
  · exact absurd e hne
  have hf := fits_pc h hk hSN hn hl
  have hh : (S.map (pc p Q N)).any (hasB (pc p Q N k)) = false := by rw [any_has h]; exact decide_eq_false hn
  rw [← pc_mk h k] at hB ⊢
  have hcon := take_yes (pc p Q N k) (pc_may h hk) w R B M ro pa la tu _ hB now hn1 hn2 (pc p Q N 0) p.da.data.toList (pc_part h hk) _ (fun W hW => lay_whole (pc p Q N k) (may_fine (pc_may h hk)) (may_wf (pc_may h hk)) W R B M ro pa now tu [] [] at_ tx v _ hW hne (pc p Q N 0) p.da.data.toList hh hf (fun i _ hc => key i hc)) (fun W W' _ h => h.2)
  obtain ⟨e1, e2, e3, e4, e5, e6, e7⟩ := pc_head h 0
  have e8 : (pc p Q N 0).fr = 0 := by have := pc_fr h 0; rw [Nat.zero_mul] at this; omega
  rw [e1, e2, e3, e4, e5, e6, e7, e8] at hcon
  refine hcon.mono ?_
  rintro e w' ⟨rfl, hT⟩
  obtain ⟨⟨L, hL, hB', -⟩, ht⟩ := tp_fin2 (P := fun L => L = []) hB hT (fun W W' _ hφ => ⟨hφ.2, _, rfl, hφ.1, fun y hy => by cases hy⟩)
  subst hL
  exact ⟨by rw [h.fr0, h.mo], ⟨hB', Or.inl ⟨rfl, rfl⟩⟩, ht⟩
end
end Go.Proofs.YthjbmloemmggaaaGreatDoor.Ip

namespace Go.Proofs.YthjbmloemmggaaaGreatDoor.Ip
open Go.RowKit Go.Maps
set_option maxRecDepth 100000
set_option linter.unusedVariables false
set_option linter.unusedSimpArgs false

structure TX (p : Pk) (g : Nat → Pk) (N : Nat) : Prop where
  may : ∀ k, k ≤ N → (g k).may = true
  ds : ∀ k, k ≤ N → (g k).da.size ≤ 400
  part : 1 ≤ N → ∀ k, k ≤ N → wholeB (g k).fr (g k).mo = false
  more : ∀ {S : List Nat} {k x : Nat}, k ≤ N → k ∉ S → x ≤ N → x ≠ k → x ∉ S → S.Pairwise (· < ·) → (∀ s ∈ S, s ≤ N) → S.length < 64 → ∀ {w : World} {R B M : Nat} {la tu : Int} {l : List Pile}, OneL w R B M 4 1000 la tu (mk p) (S.map g) l → 0 ≤ tu → tu ≤ 100000 → ∀ now : Int, la ≤ now → now ≤ 1099511627776 → Calls Tryz.prog 14 #[.pointer (some ⟨B, 0, none⟩), .agg #[.int .i64 (g k).f, .int .i64 (g k).t, .int .i64 (g k).tl, .int .i64 (g k).pr, .int .i64 (g k).id, .int .i64 (g k).fr, .bool (g k).mo, .bool (g k).dn, .string (g k).op, .string (g k).da], .int .i64 now] w fun e w' => e = .returned (.tuple #[.agg #[.int .i64 0, .int .i64 0, .int .i64 0, .int .i64 0, .int .i64 0, .int .i64 0, .bool false, .bool false, .string ⟨#[]⟩, .string ⟨#[]⟩], .bool false, .int .i64 0]) ∧ (∃ (T : List Nat) (tu' : Int) (l' : List Pile), T.Pairwise (· < ·) ∧ (∀ y, y ∈ T ↔ y = k ∨ y ∈ S) ∧ (tu' = tu ∨ tu' = tu + 1) ∧ OneL w' R B M 4 1000 now tu' (mk p) (T.map g) l' ∧ Locs w l l') ∧ Turn (FL B M l) w w'
  last : ∀ {S : List Nat} {k : Nat}, k ≤ N → k ∉ S → (∀ x, x ≤ N → x ≠ k → x ∈ S) → S.Pairwise (· < ·) → (∀ s ∈ S, s ≤ N) → S.length < 64 → ∀ {w : World} {R B M : Nat} {la tu : Int} {l : List Pile}, OneL w R B M 4 1000 la tu (mk p) (S.map g) l → ∀ now : Int, la ≤ now → now ≤ 1099511627776 → Calls Tryz.prog 14 #[.pointer (some ⟨B, 0, none⟩), .agg #[.int .i64 (g k).f, .int .i64 (g k).t, .int .i64 (g k).tl, .int .i64 (g k).pr, .int .i64 (g k).id, .int .i64 (g k).fr, .bool (g k).mo, .bool (g k).dn, .string (g k).op, .string (g k).da], .int .i64 now] w fun e w' => e = .returned (.tuple #[.agg #[.int .i64 p.f, .int .i64 p.t, .int .i64 p.tl, .int .i64 p.pr, .int .i64 p.id, .int .i64 p.fr, .bool p.mo, .bool p.dn, .string p.op, .string p.da], .bool true, .int .i64 0]) ∧ OneL w' R B M 4 1000 now tu (mk p) [] [] ∧ Turn (FL B M l) w w'
theorem tx_cut {p : Pk} {Q N : Nat} (h : Cx p Q N) : TX p (pc p Q N) N := by
  refine ⟨fun k hk => pc_may h hk, fun k hk => ?_, fun _ k hk => pc_part h hk, ?_, ?_⟩
  · have h1 := pc_enle h hk
    have h2 := h.ll
    have h3 := (may_fine (pc_may h hk)).f0
    unfold Pk.en at h1
    omega
  · intro S k x hk hn hx hxk hxS hS hSN hl w R B M la tu l hO t0 t1 now h1 h2
    exact more3 h hk hn hx hxk hxS hS hSN hl hO (by decide) (by decide) t0 t1 now h1 h2
  · intro S k hk hn hall hS hSN hl w R B M la tu l hO now h1 h2
    exact last3 h hk hn hall hS hSN hl hO now h1 h2
theorem tx_one {p : Pk} (hm : p.may = true) (hd : p.da.size ≤ 400) (hf : p.fr = 0) (hmo : p.mo = false) : TX p (fun _ => p) 0 := by
  have hw : wholeB p.fr p.mo = true := by unfold wholeB; rw [hf, hmo]; rfl
  have h0 : ∀ {S : List Nat} {k : Nat}, k ≤ 0 → k ∉ S → (∀ s ∈ S, s ≤ 0) → S = [] := by
    intro S k hk hn hS
    cases S with
    | nil => rfl
    | cons s r =>
      have := hS s (List.mem_cons_self ..)
      exact absurd (by rw [show k = s by omega]; exact List.mem_cons_self ..) hn
  refine ⟨fun _ _ => hm, fun _ _ => hd, fun h => by omega, ?_, ?_⟩
  · intro S k x hk hn hx hxk hxS
    omega
  · intro S k hk hn hall hS hSN hl w R B M la tu l hO now h1 h2
    obtain rfl := h0 hk hn hSN
    obtain ⟨hB, ⟨-, rfl⟩ | ⟨hne, -⟩⟩ := hO
    · refine (takeW p hm w R B M 4 1000 la tu [] hB now h1 h2 hw).mono ?_
      rintro e w' ⟨rfl, hT⟩
      obtain ⟨⟨L, hL, hB', -⟩, ht⟩ := tp_fin2 (tu' := tu) (P := fun L => L = []) hB hT (fun W W' hW hφ => by
        subst hφ
        exact ⟨Turn.refl _, [], rfl, hW, fun y hy => by cases hy⟩)
      subst hL
      exact ⟨rfl, ⟨hB', Or.inl ⟨rfl, rfl⟩⟩, ht⟩
    · exact absurd rfl hne
theorem cuts_tx {f t tl pr id : Int} {op da : ByteArray} {most : Int} {ps : List Pk} (h : Cuts f t tl pr id 0 false false op da most 0 ps) (hd : da.size ≤ 400) : ∃ (g : Nat → Pk) (N : Nat), TX (⟨f, t, tl, pr, id, 0, false, false, op, da⟩ : Pk) g N ∧ ps = (List.range (N + 1)).map g := by
  unfold Cuts at h
  rcases h with ⟨h, -⟩ | ⟨hm, h⟩
  · cases h
  · rcases h with ⟨h, -⟩ | ⟨h, -⟩ | ⟨⟨h1, h2⟩, ⟨-, h3, h4⟩ | ⟨h4, ⟨h, -⟩ | ⟨-, h3, -⟩⟩⟩
    · cases h
    · cases h
    · exact ⟨fun _ => ⟨f, t, tl, pr, id, 0, false, false, op, da⟩, 0, tx_one hm hd rfl rfl, h3⟩
    · cases h
    · obtain ⟨R, hR⟩ : ∃ R : Nat, (R : Int) = (most - (20 + (op.size : Int))) / 8 * 8 := ⟨((most - (20 + (op.size : Int))) / 8 * 8).toNat, by omega⟩
      have hRt : ((most - (20 + (op.size : Int))) / 8 * 8).toNat = R := by omega
      rw [hRt] at h3
      have hx : Cx (⟨f, t, tl, pr, id, 0, false, false, op, da⟩ : Pk) R (fullN da.size R) := by
        have hm1 := full_mul da.size R (by omega)
        refine ⟨by omega, by omega, hm1, ?_, ?_, rfl, rfl, hd, hm⟩
        · have hR8 : 8 ≤ R := by omega
          apply Classical.byContradiction
          intro hn
          have := (full_lt da.size R (fullN da.size R) (by omega) (by omega)).2 (by show _ < da.size; have : ¬ da.size ≤ (fullN da.size R + 1) * R := hn; omega)
          omega
        · unfold fullN
          exact (Nat.le_div_iff_mul_le (by omega)).2 (by omega)
      exact ⟨_, _, tx_cut hx, by rw [h3]; exact all_is hx⟩
def iS (q : Pk) : ByteArray := encP q.f q.t q.tl q.pr q.id q.fr q.mo q.dn q.op q.da
def fS (q : Pk) : ByteArray := Eth.encS 3 2 2048 (iS q)
def toT (q : Pk) : PkT := ⟨q.f, q.t, q.tl, q.pr, q.id, q.fr, q.mo, q.dn, q.op, q.da⟩
theorem iS_size {q : Pk} (h : q.may = true) (hd : q.da.size ≤ 400) : (iS q).size ≤ 460 := by
  have h1 := (may_fine h).ol
  have h2 : (iS q).size = 20 + q.op.size + q.da.size := encP_size _ _ _ _ _ _ _ _ _ _
  omega
theorem fr_may {q : Pk} (h : q.may = true) (hd : q.da.size ≤ 400) : Eth.mayB 3 2 2048 (iS q).size = true := by
  have := iS_size h hd
  unfold Eth.mayB
  exact decide_eq_true ⟨by decide, by decide, by decide, by decide, by omega⟩
theorem tp_enc {q : Pk} (h : q.may = true) (w : World) :
    Calls Tryz.prog 10 #[.agg #[.int .i64 q.f, .int .i64 q.t, .int .i64 q.tl, .int .i64 q.pr, .int .i64 q.id, .int .i64 q.fr, .bool q.mo, .bool q.dn, .string q.op, .string q.da]] w fun e w' => e = .returned (.tuple #[.string (iS q), .int .i64 0]) ∧ Below w.heap.size w w' := enc_y h w
theorem tp_fr {q : Pk} (h : q.may = true) (hd : q.da.size ≤ 400) (w : World) :
    Calls Tryz.prog 11 #[.agg #[.int .i64 3, .int .i64 2, .int .i64 2048, .string (iS q)]] w fun e w' => e = .returned (.tuple #[.string (fS q), .int .i64 0]) ∧ Below w.heap.size w w' := by
  have hs := iS_size h hd
  have hc := Eth.enc_any 3 2 2048 (iS q) w (by unfold maxLen; omega)
  rw [fr_may h hd, show Eth.encV 3 2 2048 (iS q) = fS q by unfold Eth.encV; rw [if_pos (fr_may h hd)]; rfl] at hc
  exact hc
theorem tp_parse {q : Pk} (h : q.may = true) (hd : q.da.size ≤ 400) :
    ∃ r, (∀ W, OrE W → Calls Tryz.prog 13 #[.string (fS q)] W fun e w' => InnP r W e w') ∧ PkOk 3000 (toT q) r := by
  have h1 := (may_fine h).ol
  exact par_pk ⟨3, 2, 2048, ⟨#[]⟩⟩ (toT q) h (by show q.op.size ≤ 1000; omega) (by show q.da.size ≤ 100000; omega) (fr_may h hd)
def L1 : List Eth.Arp.En := [(3, (1, 0))]
def L2 : List Eth.Arp.En := [(2, (0, 1)), (3, (1, 0))]
structure BJ (w : World) (B M : Nat) (la : Int) (l : List Eth.Arp.En) : Prop where
  at5 : Eth.Arp.At w B (Eth.Arp.brV 3 1000 9 la M)
  lrn : Eth.Arp.Lrn w M l
theorem BJ.later {w w' : World} {B M : Nat} {la : Int} {l : List Eth.Arp.En} (h : BJ w B M la l) (hb : Below w.heap.size w w') : BJ w' B M la l := ⟨h.at5.later hb, h.lrn.later hb⟩
theorem tp_first {w : World} {B M : Nat} (h : BJ w B M 0 []) :
    Calls Tryz.prog 9 #[.pointer (some ⟨B, 0, none⟩), .int .i64 1, .agg #[.int .i64 2, .int .i64 3, .int .i64 2048, .string ⟨#[]⟩], .int .i64 0] w fun e w' => ∃ v, e = .returned (.tuple #[v, .int .i64 0]) ∧ BJ w' B M 0 L1 ∧ Eth.Arp.Turn (fun j => j = M ∨ j = B) w w' := by
  refine (Eth.Arp.take_4 B M 3 1000 9 0 1 2 3 2048 0 ⟨#[]⟩ [] w h.at5 h.lrn (Nat.zero_le _) (by decide) (by decide) (by decide) (by decide) (by decide) (by decide) (by decide) (by decide) (by decide)).mono ?_
  rintro e w' ⟨v, rfl, -, hA, hL, ht⟩
  rw [show Eth.Arp.learnL 9 (Eth.Arp.oldL 1000 0 []) (3, 1, 0) = L1 by decide] at hL
  exact ⟨v, rfl, ⟨hA, hL⟩, ht⟩
theorem tp_take {w : World} {B M : Nat} {la : Int} {l : List Eth.Arp.En} (hl : (la = 0 ∧ l = L1) ∨ (la = 1 ∧ l = L2)) (h : BJ w B M la l) {q : Pk} (hm : q.may = true) (hd : q.da.size ≤ 400) :
    Calls Tryz.prog 9 #[.pointer (some ⟨B, 0, none⟩), .int .i64 0, .agg #[.int .i64 3, .int .i64 2, .int .i64 2048, .string (iS q)], .int .i64 1] w fun e w' => ∃ v, e = .returned (.tuple #[v, .int .i64 0]) ∧ Eth.Arp.Ints w' w.heap.size v [1] ∧ BJ w' B M 1 L2 ∧ Eth.Arp.Turn (fun j => j = M ∨ j = B) w w' := by
  have hs := iS_size hm hd
  rcases hl with ⟨rfl, rfl⟩ | ⟨rfl, rfl⟩
  · refine (Eth.Arp.take_4 B M 3 1000 9 0 0 3 2 2048 1 (iS q) L1 w h.at5 h.lrn (by unfold maxLen; omega) (by decide) (by decide) (fr_may hm hd) (by decide) (by decide) (by decide) (by decide) (by decide) (by decide)).mono ?_
    rintro e w' ⟨v, rfl, hi, hA, hL, ht⟩
    rw [show Eth.Arp.learnL 9 (Eth.Arp.oldL 1000 1 L1) (2, 0, 1) = L2 by decide] at hL hi
    rw [show Eth.Arp.waysL 3 L2 0 3 = [1] by decide] at hi
    exact ⟨v, rfl, hi, ⟨hA, hL⟩, ht⟩
  · refine (Eth.Arp.take_4 B M 3 1000 9 1 0 3 2 2048 1 (iS q) L2 w h.at5 h.lrn (by unfold maxLen; omega) (by decide) (by decide) (fr_may hm hd) (by decide) (by decide) (by decide) (by decide) (by decide) (by decide)).mono ?_
    rintro e w' ⟨v, rfl, hi, hA, hL, ht⟩
    rw [show Eth.Arp.learnL 9 (Eth.Arp.oldL 1000 1 L2) (2, 0, 1) = L2 by decide] at hL hi
    rw [show Eth.Arp.waysL 3 L2 0 3 = [1] by decide] at hi
    exact ⟨v, rfl, hi, ⟨hA, hL⟩, ht⟩
end Go.Proofs.YthjbmloemmggaaaGreatDoor.Ip

namespace Go.Proofs.YthjbmloemmggaaaGreatDoor.Ip
open Go.RowKit Go.Maps Go.Lib
set_option maxRecDepth 100000
set_option linter.unusedVariables false
set_option linter.unusedSimpArgs false

def RowS (w : World) (base : Nat) (v : Value) (L : List ByteArray) : Prop := w.ownsRow base 9 1 v L.length (L.map Value.string)
theorem RowS.nil (w : World) (base : Nat) : RowS w base (.slice none 0 0) [] := World.ownsRow_nil _ _ _ _
theorem info9 : (Tryz.prog.info? 9).map (fun i => (i.zero, i.size, i.bytes)) = some (some (.string ⟨#[]⟩), 1, 16) := by kernel_rfl
theorem RowS.later {w w' : World} {base : Nat} {v : Value} {L : List ByteArray} (h : RowS w base v L) (hb : Below w.heap.size w w') : RowS w' base v L := own_later h hb
theorem RowS.mono {w : World} {base base' : Nat} {v : Value} {L : List ByteArray} (h : RowS w base v L) (hb : base' ≤ base) : RowS w base' v L := own_mono h hb
theorem RowS.ge {w : World} {base : Nat} {v : Value} {L : List ByteArray} (h : RowS w base v L) : ∀ k, v.ownBlock = some k → base ≤ k ∧ k < w.heap.size := by
  intro k hk
  rcases h.2 with ⟨rfl, -⟩ | ⟨g, cap, cur, rfl, hg, hb, -⟩
  · cases hk
  · cases hk; exact ⟨hg, (Array.getElem?_eq_some_iff.1 hb).1⟩
theorem RowS.turn {S : Nat → Prop} {w w' : World} {base : Nat} {v : Value} {L : List ByteArray} (h : RowS w base v L) (ht : Turn S w w') (hs : ∀ k, v.ownBlock = some k → ¬ S k) : RowS w' base v L := by
  refine ⟨h.1, h.2.imp id (fun ⟨g, cap, cur, hv, hg, hb, r⟩ => ⟨g, cap, cur, hv, hg, ?_, r⟩)⟩
  rw [ht.block g (Array.getElem?_eq_some_iff.1 hb).1 (hs g (by rw [hv]; rfl))]
  exact hb
def RD (w : World) (v : Value) (L : List ByteArray) : Prop := ∃ g off c, v = .slice (some ⟨g, off, none⟩) L.length c ∧ L.length ≤ c ∧ ∀ (j : Nat) (s : ByteArray), L[j]? = some s → w.cell? ⟨g, off + j, none⟩ = some (.string s)
theorem RowS.open {w : World} {base : Nat} {v : Value} {L : List ByteArray} (h : RowS w base v L) (hn : L ≠ []) : ∃ g c, v = .slice (some ⟨g, 0, none⟩) L.length c ∧ L.length ≤ c ∧ base ≤ g ∧ ∀ (j : Nat) (s : ByteArray), L[j]? = some s → w.cell? ⟨g, j, none⟩ = some (.string s) := by
  rcases h.2 with ⟨-, h0⟩ | ⟨g, cap, cur, rfl, hg, hb, h1, h2, h3, h4⟩
  · exact absurd (List.length_eq_zero_iff.1 h0) hn
  · refine ⟨g, cap, rfl, h1, hg, fun j s hs => ?_⟩
    have h' : RowS w base (.slice (some ⟨g, 0, none⟩) L.length cap) L := h
    have := World.ownsRow.cells h' (g := g) rfl j (.string s) (by rw [List.getElem?_map, hs]; rfl)
    rw [Addr.add_mid] at this
    simpa using this
theorem slice_to {g c n k : Nat} (hk : k ≤ n) (hc : n ≤ c) : ∀ W, (Instr.slice 41 (.slice (some ⟨g, 0, none⟩) n c) none (some (.int .i64 (k : Int))) none).run Tryz.prog W = .ok (.slice (some ⟨g, 0, none⟩) k c) W := fun W => by
  simp [Instr.slice, Instr.sliceBounds, Instr.sliceBound, asIntOf, run_underlying Tryz.underlying41, Tryz.sizeOf9, Result.andThen, Addr.add_mid, show k ≤ c by omega]
theorem slice_from {g c n k : Nat} (hk : k ≤ n) (hc : n ≤ c) : ∀ W, (Instr.slice 41 (.slice (some ⟨g, 0, none⟩) n c) (some (.int .i64 (k : Int))) none none).run Tryz.prog W = .ok (.slice (if c = k then some ⟨g, 0, none⟩ else some ⟨g, k, none⟩) (n - k) (c - k)) W := fun W => by
  (simp [Instr.slice, Instr.sliceBounds, Instr.sliceBound, asIntOf, run_underlying Tryz.underlying41, Tryz.sizeOf9, Result.andThen, Addr.add_mid, show k ≤ c by omega, show k ≤ n by omega, hk]; try (split <;> simp [Addr.add_mid, *]))
theorem wpList_appendS {w : World} {ops : Array Oper} {rest : List Oper} {o : Oper} {a : Act} {Q : Exit → Act → World → Prop} (hgd : o.guard = none) (s x : Operand)
    (ho : o.op = .call { callee := .builtin .append, args := #[s, x], argTypes := #[41, 41] }) (base : Nat) (v : Value) (L : List ByteArray) (t : ByteArray) (hs : a.eval s = v) (hown : RowS w base v L) (hx : a.eval x = .slice (some ⟨w.heap.size, 0, none⟩) 1 1) (hbase : base ≤ w.heap.size) (hlen : L.length < 100000)
    (h : ∀ v' w', RowS w' base v' (L ++ [t]) → Turn (fun k => v.ownBlock = some k) w w' → (v'.ownBlock = v.ownBlock ∨ ∀ k, v'.ownBlock = some k → w.heap.size ≤ k) → wpList Tryz.prog ops Q rest (a.put o.dst v') w') : wpList Tryz.prog ops Q (o :: rest) a (w.alloc (.cells #[.string t] 9)) := by
  obtain ⟨i0, hi, hz0, hz1, hz2⟩ := info_parts info9
  refine wpList_plain hgd fun K hK => ?_
  obtain ⟨v', w', hr, h2, h3, -, h5⟩ := run_append_own_at (P := Tryz.prog) (w.alloc (.cells #[.string t] 9)) base 41 o.type 9 i0 (.string ⟨#[]⟩) 1 16 Tryz.underlying41 hi hz0 hz1 hz2 rfl (by decide) v L.length (L.map Value.string) (World.ownsRow.alloc hown _) ⟨w.heap.size, 0, none⟩ 1 1 [.string t] rfl (cell_one_new w (.string t) 9) (by simp [Value.oneCell']) (by unfold maxLen; omega) (by omega) (Nat.le_trans hbase (bel1 w _).size)
  unfold Oper.wp execOp
  simp only [ho, resolve, invoke, builtin, Sem.run_bind, Sem.run_pure, Result.andThen_ok, List.map_toArray, List.map_cons, List.map_nil, hs, hx, hr]
  refine hK _ _ (h v' w' ?_ ((Turn.of_below (bel1 w _)).and h3 (fun j hj => Or.inl hj)) ?_)
  · unfold RowS
    simpa using h2
  · rcases h5 with h5 | h5
    · exact Or.inl h5
    · exact Or.inr (fun k hk => by rw [h5] at hk; cases hk; exact (bel1 w _).size)
theorem step_appS {w w' : World} {ops : Array Oper} {o : Oper} {a : Act} {K : Act → World → Prop} {Q : Exit → Act → World → Prop} {E : Prop} {v vs v' : Value} {t u : TypeId} (hgd : o.guard = none) (s x : Operand) (ho : o.op = .call { callee := .builtin .append, args := #[s, x], argTypes := #[t, u] })
    (hs : a.eval s = v) (hx : a.eval x = vs) (hr : (Builtin.append_ #[t, u] o.type #[v, vs]).run Tryz.prog w = .ok v' w') (h : K (a.put o.dst v') w') : if Region.wanted o (yielded ops a.tmps) = true then Oper.wp Tryz.prog o a w K Q else E := by
  have hw : Region.wanted o (yielded ops a.tmps) = true := by simp [Region.wanted, hgd]
  rw [if_pos hw]
  unfold Oper.wp execOp
  simp only [ho, resolve, invoke, builtin, Sem.run_bind, Sem.run_pure, Result.andThen_ok, List.map_toArray, List.map_cons, List.map_nil, hs, hx, hr]
  exact h
theorem step_b0S {w : World} {ops : Array Oper} {o : Oper} {a : Act} {K : Act → World → Prop} {Q : Exit → Act → World → Prop} {E : Prop} (base : Nat) (hbase : base ≤ w.heap.size) (hgd : o.guard = none) (ho : o.op = .buildSlice 41 0 #[])
    (h : ∀ v' w', RowS w' base v' [] → Below w.heap.size w w' → K (a.put o.dst v') w') : if Region.wanted o (yielded ops a.tmps) = true then Oper.wp Tryz.prog o a w K Q else E := by
  have hw : Region.wanted o (yielded ops a.tmps) = true := by simp [Region.wanted, hgd]
  rw [if_pos hw]
  have hr : (Instr.buildSlice 41 0 #[]).run Tryz.prog w = .ok (.slice (some ⟨w.heap.size, 0, none⟩) 0 0) (w.alloc (.cells #[] 9)) := by kernel_rfl
  unfold Oper.wp
  simp [execOp, ho, hr, Result.andThen]
  exact h _ _ (World.ownsRow_made w #[] 0 hbase (Nat.zero_le _) rfl) (bel1 _ _)
theorem step_clS {w : World} {ops : Array Oper} {o : Oper} {a : Act} {K : Act → World → Prop} {Q : Exit → Act → World → Prop} {E : Prop} (hgd : o.guard = none) (s x : Operand) (ho : o.op = .call { callee := .builtin .append, args := #[s, x], argTypes := #[41, 41] }) {base : Nat} {v0 v : Value} {L0 L : List ByteArray}
    (hs : a.eval s = v0) (hx : a.eval x = v) (hown : RowS w base v0 L0) (hv : RD w v L) (hl : L0.length + L.length ≤ 100000) (hbase : base ≤ w.heap.size)
    (h : ∀ v' w', RowS w' base v' (L0 ++ L) → Below base w w' → K (a.put o.dst v') w') : if Region.wanted o (yielded ops a.tmps) = true then Oper.wp Tryz.prog o a w K Q else E := by
  obtain ⟨i0, hi, hz0, hz1, hz2⟩ := info_parts info9
  obtain ⟨gv, ov, c, rfl, hlc, hcell⟩ := hv
  obtain ⟨v', w', e1, e2, e3, e4, -⟩ := run_append_own_at (P := Tryz.prog) w base 41 o.type 9 i0 _ 1 16 Tryz.underlying41 hi hz0 hz1 hz2 rfl (by decide) v0 L0.length (L0.map Value.string) hown ⟨gv, ov, none⟩ L.length c (L.map Value.string) (by rw [List.length_map, Nat.mul_one]) (fun j u hu => by
    rw [List.getElem?_map] at hu
    obtain ⟨b, hb, rfl⟩ := Option.map_eq_some_iff.1 hu
    rw [Addr.add_mid]
    exact hcell j b hb) (by intro u hu; obtain ⟨b, -, rfl⟩ := List.mem_map.1 hu; rfl) (by unfold maxLen; omega) (by omega) hbase
  have ht : Turn (fun k => v0.ownBlock = some k) w w' := Turn.of_grown e3 (fun j hj => Or.inl hj)
  refine step_appS hgd s x ho hs hx e1 (h v' w' ?_ (ht.below hbase (fun k hk e => by have := hown.ge k e; omega)))
  unfold RowS
  rw [List.length_append, List.map_append]
  exact e2
def xP : Pk := ⟨0, 0, 0, 0, 0, 0, false, false, ⟨#[]⟩, ⟨#[120]⟩⟩
set_option maxHeartbeats 4000000 in
theorem gathers_any (w : World) : Calls Tryz.prog 4 #[] w fun e w' => e = .returned (.bool true) ∧ Below w.heap.size w w' := by
  go_enter Tryz.func4, Tryz.ntmps4
  go_wp2_with fail
  refine (new_t 1 1 w (by decide) (by decide) (by decide) (by decide)).mono ?_
  rintro e w1 ⟨rfl, hA, hG, l1⟩
  have hB1 := hA.1
  have hBX : BX w1 w1.heap.size (w.heap.size + 1) w.heap.size 1 1 0 0 [] := ⟨hA, hG, (fun x hx => by cases hx), List.Pairwise.nil, by omega, by omega, Nat.le_refl _, by omega⟩
  have hcon := takeW xP (by decide) w1 _ _ _ 1 1 0 0 [] hBX 0 (by decide) (by decide) rfl
  go_wp2_with fail
  refine hcon.mono ?_
  rintro e w2 ⟨rfl, hT⟩
  obtain ⟨-, ht⟩ := tp_fin2 (tu' := 0) (P := fun L => L = []) hBX hT (fun W W' hW hφ => by
    subst hφ
    exact ⟨Turn.refl _, [], rfl, hW, fun y hy => by cases hy⟩)
  have hb2 : Below w.heap.size w w2 := l1.trans (ht.below l1.size (fun k hk e => by
    rcases e with e | e | ⟨x, hx, -⟩
    · omega
    · omega
    · cases hx))
  clear hcon hT hBX ht hA hG l1
  have hone : (#[.int .i64 0, .int .i64 0, .int .i64 0, .int .i64 0, .int .i64 0, .int .i64 0, .bool false, .bool false, .string ⟨#[]⟩, .string ⟨#[120]⟩] : Array Value).all (·.oneCell') = true := by simp [Value.oneCell']
  go_upto_region 5 with (first
    | (refine wpList_store_at rfl 23 _ _ rfl _ w2.heap.size #[.int .i64 0, .int .i64 0, .int .i64 0, .int .i64 0, .int .i64 0, .int .i64 0, .bool false, .bool false, .string ⟨#[]⟩, .string ⟨#[]⟩] #[.int .i64 0, .int .i64 0, .int .i64 0, .int .i64 0, .int .i64 0, .int .i64 0, .bool false, .bool false, .string ⟨#[]⟩, .string ⟨#[120]⟩] rfl rfl (At.box w2 #[.int .i64 0, .int .i64 0, .int .i64 0, .int .i64 0, .int .i64 0, .int .i64 0, .bool false, .bool false, .string ⟨#[]⟩, .string ⟨#[]⟩] 23) rfl (by kernel_rfl) hone ?_; intro w3 hQ3 ht3)
    | go_in)
  have q3 : Below w2.heap.size w2 w3 := (bel1 w2 (.cells #[.int .i64 0, .int .i64 0, .int .i64 0, .int .i64 0, .int .i64 0, .int .i64 0, .bool false, .bool false, .string ⟨#[]⟩, .string ⟨#[]⟩] 23)).trans (below_turn ht3 (Nat.le_refl _) (bel1 w2 _).size)
  have hb3 := bt hb2 q3
  obtain ⟨⟨a0, a1, a2, a3, a4, a5, a6, a7, a8, a9⟩, -, -⟩ := hQ3.ten
  clear hQ3 q3 ht3 hb2
  go_wp2
  go_ret
  exact ⟨by first | rfl | simp, hb3⟩
end Go.Proofs.YthjbmloemmggaaaGreatDoor.Ip

namespace Go.Proofs.YthjbmloemmggaaaGreatDoor.Ip
open Go.RowKit Go.Maps Go.Lib
set_option maxRecDepth 100000
set_option linter.unusedVariables false
set_option linter.unusedSimpArgs false

structure DS (N : Nat) (D S : List Nat) : Prop where
  dp : D.Pairwise (· < ·)
  sp : S.Pairwise (· < ·)
  iff : ∀ x, x ∈ D ↔ x ≤ N ∧ x ∉ S
  sN : ∀ x ∈ S, x ≤ N
theorem few {N : Nat} : ∀ (T : List Nat) (c : Nat), T.Pairwise (· < ·) → (∀ x ∈ T, c ≤ x ∧ x ≤ N) → T.length ≤ N + 1 - c := by
  intro T
  induction T with
  | nil => intro c _ _; simp
  | cons y r ih =>
    intro c hp hb
    have hy := hb y (List.mem_cons_self ..)
    have := ih (y + 1) (List.pairwise_cons.1 hp).2 (fun x hx => ⟨(List.pairwise_cons.1 hp).1 x hx, (hb x (List.mem_cons_of_mem _ hx)).2⟩)
    rw [List.length_cons]
    omega
theorem DS.slen {N : Nat} {D S : List Nat} (h : DS N D S) (hN : N < 40) : S.length < 64 := by
  have := few S 0 h.sp (fun x hx => ⟨Nat.zero_le _, h.sN x hx⟩)
  omega
theorem split_at {D : List Nat} {k d : Nat} (hd : D[k]? = some d) : D = D.take k ++ d :: D.drop (k + 1) := by
  obtain ⟨hk, he⟩ := List.getElem?_eq_some_iff.1 hd
  rw [← he, List.getElem_cons_drop, List.take_append_drop]
theorem cut_mem {D : List Nat} {k d : Nat} (hp : D.Pairwise (· < ·)) (hd : D[k]? = some d) (x : Nat) : x ∈ D.take k ++ D.drop (k + 1) ↔ x ∈ D ∧ x ≠ d := by
  have hs := split_at hd
  rw [hs] at hp
  obtain ⟨h1, h2, h3⟩ := List.pairwise_append.1 hp
  have h4 := (List.pairwise_cons.1 h2).1
  rw [show (x ∈ D ↔ x ∈ D.take k ++ d :: D.drop (k + 1)) by rw [← hs]]
  simp only [List.mem_append, List.mem_cons]
  constructor
  · rintro (h | h)
    · exact ⟨Or.inl h, fun e => by have := h3 x h d (List.mem_cons_self ..); omega⟩
    · exact ⟨Or.inr (Or.inr h), fun e => by have := h4 x h; omega⟩
  · rintro ⟨h | h | h, hn⟩
    · exact Or.inl h
    · exact absurd h hn
    · exact Or.inr h
theorem cut_pair {D : List Nat} {k d : Nat} (hp : D.Pairwise (· < ·)) (hd : D[k]? = some d) : (D.take k ++ D.drop (k + 1)).Pairwise (· < ·) := by
  have hs := split_at hd
  refine hp.sublist ?_
  conv => rhs; rw [hs]
  exact List.Sublist.append (List.Sublist.refl _) (List.sublist_cons_self _ _)
theorem DS.put {N k d : Nat} {D S T : List Nat} (h : DS N D S) (hd : D[k]? = some d) (hT : T.Pairwise (· < ·)) (hm : ∀ y, y ∈ T ↔ y = d ∨ y ∈ S) : DS N (D.take k ++ D.drop (k + 1)) T := by
  refine ⟨cut_pair h.dp hd, hT, fun x => ?_, fun x hx => ?_⟩
  · rw [cut_mem h.dp hd, h.iff, hm]
    constructor
    · rintro ⟨⟨a, b⟩, c⟩; exact ⟨a, fun e => e.elim c b⟩
    · rintro ⟨a, c⟩; exact ⟨⟨a, fun e => c (Or.inr e)⟩, fun e => c (Or.inl e)⟩
  · rcases (hm x).1 hx with e | e
    · have := ((h.iff d).1 (List.mem_of_getElem? hd)).1; omega
    · exact h.sN x e
def K2 (R PBX B2 M2 base : Nat) (w : World) (p : Pk) (pv : Array Value) (g : Nat → Pk) (N : Nat) (W : World) (i : Nat) (v : Value) : Prop := At W PBX pv ∧ Below w.heap.size w W ∧ R ≤ W.heap.size ∧ ∃ (D : List Nat) (la tu : Int) (l : List Pile), RowS W base v (D.map (fun k => fS (g k))) ∧ (∀ k, v.ownBlock = some k → ¬ FL B2 M2 l k) ∧ i + D.length = N + 1 ∧ la ≤ (i : Int) ∧ 0 ≤ tu ∧ tu ≤ (i : Int) ∧ ((D = [] ∧ OneL W R B2 M2 4 1000 la tu (mk p) [] [] ∧ l = []) ∨ (D ≠ [] ∧ ∃ S, DS N D S ∧ OneL W R B2 M2 4 1000 la tu (mk p) (S.map g) l))
theorem RowS.shape0 {w : World} {base : Nat} {v : Value} {L : List ByteArray} (h : RowS w base v L) : ∃ a c, v = .slice a L.length c := by
  rcases h.2 with ⟨rfl, h0⟩ | ⟨g, cap, cur, rfl, -⟩
  · rw [h0]; exact ⟨none, 0, rfl⟩
  · exact ⟨_, cap, rfl⟩
theorem OneL.later {w w' : World} {R B M : Nat} {ro pa la tu : Int} {m : Mk} {ps : List Pk} {l : List Pile} (h : OneL w R B M ro pa la tu m ps l) (hb : Below w.heap.size w w') : OneL w' R B M ro pa la tu m ps l := ⟨h.1.later hb, h.2⟩
theorem at_mid {W : World} {b : Nat} {vs : Array Value} (h : At W b vs) (L : List Value) (hL : ∀ i u, L[i]? = some u → vs[10 + i]? = some u) : W.rangeAt b 10 L := fun i u hi => (h.2 (10 + i) u (hL i u hi)).1
theorem pd_mid (z : Pd) (v : Value) (q : Pk) (h : z.pk = toT q) : ∀ i u, q.L[i]? = some u → (z.v v)[10 + i]? = some u := by
  intro i u hi
  have h10 : i < 10 := (List.getElem?_eq_some_iff.1 hi).1
  obtain ⟨zk, zf, za, zp, zi, zs⟩ := z
  simp only at h
  subst h
  have : i = 0 ∨ i = 1 ∨ i = 2 ∨ i = 3 ∨ i = 4 ∨ i = 5 ∨ i = 6 ∨ i = 7 ∨ i = 8 ∨ i = 9 := by omega
  rcases this with rfl | rfl | rfl | rfl | rfl | rfl | rfl | rfl | rfl | rfl <;> exact hi
end Go.Proofs.YthjbmloemmggaaaGreatDoor.Ip
