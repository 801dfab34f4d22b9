/- the texts Kb, in part, merged by program -/
import Derived.Test.YtcjhniehbafhpaaProg
import Derived.Test.YtcjhniehbafhpaaRows
import Derived.WalkKit
import Derived.WalkSpells
import Derived.Laws.OwnMore
import Derived.Deep.RegionWith
import Derived.Maps.RangeWalk
import Derived.Maps.OwnSet
import Derived.Maps.Ext
import Derived.Maps.Keyed
import Derived.DeepKeys4
import Derived.WalkSmall
import Derived.Deep.Cut
import Derived.Deep.CutRange
import Derived.Deep.MidRow
import Derived.Deep.QuietTactic
import Derived.BigQuiet
import Derived.OwnWalk
import Derived.Laws.CopyRow
import Derived.OrdersHeld
import Derived.Shelf.Spec.SlicesInsert
import Derived.Lib.AppendZerosOnto
import Derived.Maps.AppendAt
import Derived.Lib.Overlaps
import Derived.Shelf.Strings.BuilderK
import Derived.Laws.AppendOwn
import Derived.Laws.AppendOwnNone
import Derived.Carry
import Derived.Shelf.SlSortCmp.WholeK
import Derived.Great.BuildSlice
import Derived.Shelf.SlSortCmp.NoneTotal
import Derived.Deep.RegionHeld3
import Derived.LoopN
import Derived.Test.YtcjhniehbafhpaaMA01
import Derived.Test.YtcjhniehbafhpaaMA02
import Derived.Test.YtcjhniehbafhpaaMA03
import Derived.Test.YtcjhniehbafhpaaMA04
import Derived.Test.YtcjhniehbafhpaaMA05
import Derived.Test.YtcjhniehbafhpaaMA06
import Derived.Test.YtcjhniehbafhpaaMA07
import Derived.Test.YtcjhniehbafhpaaMA08
import Derived.Test.YtcjhniehbafhpaaMA09
import Derived.Test.YtcjhniehbafhpaaMA10
import Derived.Test.YtcjhniehbafhpaaMA11
import Derived.Test.YtcjhniehbafhpaaMA12
import Derived.Test.YtcjhniehbafhpaaMA13
import Derived.Test.YtcjhniehbafhpaaMA14
import Derived.Test.YtcjhniehbafhpaaMA15
import Derived.Test.YtcjhniehbafhpaaMA16
import Derived.Test.YtcjhniehbafhpaaMA17
import Derived.Test.YtcjhniehbafhpaaMA18
import Derived.Test.YtcjhniehbafhpaaMA19
import Derived.Test.YtcjhniehbafhpaaMA20
import Derived.Test.YtcjhniehbafhpaaMA21
namespace Go.Proofs.Ytcjhniehbafhpaa
open Go.RowKit Go.Maps
set_option maxRecDepth 100000
set_option linter.unusedVariables false
set_option linter.unusedSimpArgs false

def pz : Pk := ⟨0, 0, 0, 0, 0, 0, false, false, ⟨#[]⟩, ⟨#[]⟩⟩
def KeepAt (w w' : World) (B M : Nat) (Z : List Cb) : Prop := ∀ b vs, At w b vs → b ≠ B → b ≠ M → (∀ z ∈ Z, z.v.ownBlock ≠ some b) → At w' b vs
def Both (n0 : Nat) (w : World) (R B M K : Nat) (ro pa la tu : Int) (Z : List Cb) (p : Pk) (now : Int) : Prop :=
  ∃ (q : Pk) (ok : Bool) (code : Int) (Mid : World → Prop), Calls Try.prog 13 #[.pointer (some ⟨B, 0, none⟩), .agg #[.int .i64 p.f, .int .i64 p.t, .int .i64 p.tl, .int .i64 p.pr, .int .i64 p.id, .int .i64 p.fr, .bool p.mo, .bool p.dn, .string p.op, .string p.da], .int .i64 now] w (fun e w' => e = .returned (.tuple #[.agg #[.int .i64 q.f, .int .i64 q.t, .int .i64 q.tl, .int .i64 q.pr, .int .i64 q.id, .int .i64 q.fr, .bool q.mo, .bool q.dn, .string q.op, .string q.da], .bool ok, .int .i64 code]) ∧ Mid w' ∧ Below n0 w w' ∧ KeepAt w w' B M Z) ∧
    ∀ w1 w2, Mid w1 → n0 ≤ w1.heap.size → Below w1.heap.size w1 w2 → Calls Try.prog 14 #[.pointer (some ⟨K, 0, none⟩), .agg #[.int .i64 p.f, .int .i64 p.t, .int .i64 p.tl, .int .i64 p.pr, .int .i64 p.id, .int .i64 p.fr, .bool p.mo, .bool p.dn, .string p.op, .string p.da], .int .i64 now] w2 (fun e w' => e = .returned (.tuple #[.agg #[.int .i64 q.f, .int .i64 q.t, .int .i64 q.tl, .int .i64 q.pr, .int .i64 q.id, .int .i64 q.fr, .bool q.mo, .bool q.dn, .string q.op, .string q.da], .bool ok, .int .i64 code]) ∧ (∃ la2 tu2 Z2 v2, PL w' R B M K ro pa la2 tu2 Z2 v2 ∧ tu2 ≤ tu + 1) ∧ Turn (fun k => k = K) w2 w')
section
variable {n0 : Nat} {w : World} {R B M K : Nat} {ro pa la tu : Int} {Z : List Cb} {v : Value} {p q : Pk} {now code tu2 : Int} {ok : Bool}
theorem PL.fl_below (h : PL w R B M K ro pa la tu Z v) (hB : n0 ≤ B) (hM : n0 ≤ M) : ∀ k, k < n0 → ¬ FL B M (Z.map Cb.p) k := by
  intro k hk hf
  have := h.bx.bR
  rcases h.fl hf with e | e | ⟨x, hx, e⟩
  · omega
  · omega
  · have := (h.row hx k e).1; omega
theorem PL.keepAt (h : PL w R B M K ro pa la tu Z v) {w' : World} (ht : Turn (FL B M (Z.map Cb.p)) w w') : KeepAt w w' B M Z := fun b vs hb h1 h2 h3 => hb.turn ht (fun hf => by
  rcases h.fl hf with e | e | ⟨x, hx, e⟩
  · exact h1 e
  · exact h2 e
  · exact h3 x hx e)
theorem both_A (h : PL w R B M K ro pa la tu Z v) (hn : n0 ≤ w.heap.size) (hp : Calls Try.prog 13 #[.pointer (some ⟨B, 0, none⟩), .agg #[.int .i64 p.f, .int .i64 p.t, .int .i64 p.tl, .int .i64 p.pr, .int .i64 p.id, .int .i64 p.fr, .bool p.mo, .bool p.dn, .string p.op, .string p.da], .int .i64 now] w fun e w' => e = .returned (.tuple #[.agg #[.int .i64 q.f, .int .i64 q.t, .int .i64 q.tl, .int .i64 q.pr, .int .i64 q.id, .int .i64 q.fr, .bool q.mo, .bool q.dn, .string q.op, .string q.da], .bool ok, .int .i64 code]) ∧ Below w.heap.size w w') (hd : ∀ w2, DX w2 K R ro pa la v (Z.map Cb.d) → Calls Try.prog 14 #[.pointer (some ⟨K, 0, none⟩), .agg #[.int .i64 p.f, .int .i64 p.t, .int .i64 p.tl, .int .i64 p.pr, .int .i64 p.id, .int .i64 p.fr, .bool p.mo, .bool p.dn, .string p.op, .string p.da], .int .i64 now] w2 fun e w' => e = .returned (.tuple #[.agg #[.int .i64 q.f, .int .i64 q.t, .int .i64 q.tl, .int .i64 q.pr, .int .i64 q.id, .int .i64 q.fr, .bool q.mo, .bool q.dn, .string q.op, .string q.da], .bool ok, .int .i64 code]) ∧ Below w2.heap.size w2 w') : Both n0 w R B M K ro pa la tu Z p now := by
  refine ⟨q, ok, code, fun w1 => PL w1 R B M K ro pa la tu Z v, hp.mono fun e w' ⟨he, hb⟩ => ⟨he, h.later hb, hb.mono hn, fun b vs ha _ _ _ => ha.later hb⟩, fun w1 w2 hm hs hb => ?_⟩
  have h2 := hm.later hb
  exact (hd w2 h2.dx).mono fun e w' ⟨he, hb'⟩ => ⟨he, ⟨la, tu, Z, v, h2.later hb', by omega⟩, Turn.of_below hb'⟩
theorem both_B (h : PL w R B M K ro pa la tu Z v) (hn : n0 ≤ w.heap.size) (hB : n0 ≤ B) (hM : n0 ≤ M) (hK : n0 ≤ K) (hn1 : la ≤ now) (hn2 : now ≤ 1099511627776) (ht1 : tu ≤ tu2) (ht2 : tu2 ≤ tu + 1)
    (hp : Calls Try.prog 13 #[.pointer (some ⟨B, 0, none⟩), .agg #[.int .i64 p.f, .int .i64 p.t, .int .i64 p.tl, .int .i64 p.pr, .int .i64 p.id, .int .i64 p.fr, .bool p.mo, .bool p.dn, .string p.op, .string p.da], .int .i64 now] w fun e w' => e = .returned (.tuple #[.agg #[.int .i64 q.f, .int .i64 q.t, .int .i64 q.tl, .int .i64 q.pr, .int .i64 q.id, .int .i64 q.fr, .bool q.mo, .bool q.dn, .string q.op, .string q.da], .bool ok, .int .i64 code]) ∧ (∃ l1, l1 = Z.map Cb.p ∧ BX w' R B M ro pa now tu2 l1 ∧ Locs w (Z.map Cb.p) l1) ∧ Turn (FL B M (Z.map Cb.p)) w w') (hd : ∀ w2, DX w2 K R ro pa la v (Z.map Cb.d) → Calls Try.prog 14 #[.pointer (some ⟨K, 0, none⟩), .agg #[.int .i64 p.f, .int .i64 p.t, .int .i64 p.tl, .int .i64 p.pr, .int .i64 p.id, .int .i64 p.fr, .bool p.mo, .bool p.dn, .string p.op, .string p.da], .int .i64 now] w2 fun e w' => e = .returned (.tuple #[.agg #[.int .i64 q.f, .int .i64 q.t, .int .i64 q.tl, .int .i64 q.pr, .int .i64 q.id, .int .i64 q.fr, .bool q.mo, .bool q.dn, .string q.op, .string q.da], .bool ok, .int .i64 code]) ∧ TK0 w2 w' K R ro pa now v (Z.map Cb.d)) : Both n0 w R B M K ro pa la tu Z p now := by
  refine ⟨q, ok, code, fun w1 => BX w1 R B M ro pa now tu2 (Z.map Cb.p) ∧ Turn (FL B M (Z.map Cb.p)) w w1, hp.mono fun e w' ⟨he, ⟨l1, e1, hb, _⟩, ht⟩ => ⟨he, ⟨e1 ▸ hb, ht⟩, ht.below hn (h.fl_below hB hM), h.keepAt ht⟩, fun w1 w2 hm hs hb => ?_⟩
  obtain ⟨hbx, ht⟩ := hm
  exact (hd w2 ((h.keep ht).later hb)).mono fun e w' ⟨he, hT⟩ => ⟨he, ⟨now, tu2, Z, v, h.fin0 hn1 hn2 ht hb hbx hT ht1, ht2⟩, hT.2⟩
theorem both_C (h : PL w R B M K ro pa la tu Z v) (hn : n0 ≤ w.heap.size) (hB : n0 ≤ B) (hM : n0 ≤ M) (hK : n0 ≤ K) (hn1 : la ≤ now) (hn2 : now ≤ 1099511627776) (ht1 : tu ≤ tu2) (ht2 : tu2 ≤ tu + 1) (PP : List Pile → Prop) (DD : List DP → Prop)
    (hp : Calls Try.prog 13 #[.pointer (some ⟨B, 0, none⟩), .agg #[.int .i64 p.f, .int .i64 p.t, .int .i64 p.tl, .int .i64 p.pr, .int .i64 p.id, .int .i64 p.fr, .bool p.mo, .bool p.dn, .string p.op, .string p.da], .int .i64 now] w fun e w' => e = .returned (.tuple #[.agg #[.int .i64 q.f, .int .i64 q.t, .int .i64 q.tl, .int .i64 q.pr, .int .i64 q.id, .int .i64 q.fr, .bool q.mo, .bool q.dn, .string q.op, .string q.da], .bool ok, .int .i64 code]) ∧ (∃ l1, PP l1 ∧ BX w' R B M ro pa now tu2 l1 ∧ Locs w (Z.map Cb.p) l1) ∧ Turn (FL B M (Z.map Cb.p)) w w')
    (hd : ∀ w2, DX w2 K R ro pa la v (Z.map Cb.d) → Calls Try.prog 14 #[.pointer (some ⟨K, 0, none⟩), .agg #[.int .i64 p.f, .int .i64 p.t, .int .i64 p.tl, .int .i64 p.pr, .int .i64 p.id, .int .i64 p.fr, .bool p.mo, .bool p.dn, .string p.op, .string p.da], .int .i64 now] w2 fun e w' => e = .returned (.tuple #[.agg #[.int .i64 q.f, .int .i64 q.t, .int .i64 q.tl, .int .i64 q.pr, .int .i64 q.id, .int .i64 q.fr, .bool q.mo, .bool q.dn, .string q.op, .string q.da], .bool ok, .int .i64 code]) ∧ ∃ L1, DD L1 ∧ TKB w2 w' K R ro pa now (Z.map Cb.d) L1)
    (hz : ∀ l1 L1, PP l1 → DD L1 → ∃ Z' : List Cb, Z'.map Cb.p = l1 ∧ Z'.map Cb.d = L1 ∧ (∀ z ∈ Z', z.Ok) ∧ (∀ z ∈ Z', 0 ≤ z.at_ ∧ z.at_ ≤ now) ∧ (∀ z ∈ Z', 0 ≤ z.tu ∧ z.tu ≤ tu2) ∧ Z'.Pairwise (fun x y => x.tu < y.tu) ∧ (Z'.length : Int) ≤ ro) : Both n0 w R B M K ro pa la tu Z p now := by
  refine ⟨q, ok, code, fun w1 => (∃ l1, PP l1 ∧ BX w1 R B M ro pa now tu2 l1 ∧ Locs w (Z.map Cb.p) l1) ∧ Turn (FL B M (Z.map Cb.p)) w w1, hp.mono fun e w' ⟨he, hm, ht⟩ => ⟨he, ⟨hm, ht⟩, ht.below hn (h.fl_below hB hM), h.keepAt ht⟩, fun w1 w2 hm hs hb => ?_⟩
  obtain ⟨⟨l1, hP, hbx, hloc⟩, ht⟩ := hm
  refine (hd w2 ((h.keep ht).later hb)).mono fun e w' ⟨he, L1, hD, hT⟩ => ⟨he, ?_, ?_⟩
  · obtain ⟨Z', rfl, rfl, z1, z2, z3, z4, z5⟩ := hz l1 L1 hP hD
    obtain ⟨v', hv'⟩ := h.fin hn1 hn2 ht hb hbx (fun z hz k hk => by
      rcases hloc z.p (List.mem_map_of_mem hz) k hk with ⟨x, hx, e⟩ | hge
      · obtain ⟨y, hy, rfl⟩ := List.mem_map.1 hx
        exact Or.inl ⟨y, hy, e⟩
      · exact Or.inr hge) hT ht1 z1 z2 z3 z4 z5
    exact ⟨now, tu2, Z', v', hv', ht2⟩
  · obtain ⟨v2, -, -, -, htK⟩ := hT
    exact htK
end
theorem tp_same {w w' : World} {R B M : Nat} {ro pa la now tu tu' : Int} {l : List Pile} (hBX : BX w R B M ro pa la tu l) {Φ : World → World → Prop} (h : TP w w' R B M ro pa now tu l Φ) (hΦ : ∀ W W', BX W R B M ro pa now tu l → Φ W W' → LayBox W W' R B M ro pa now tu' l l) : (∃ L, L = l ∧ BX w' R B M ro pa now tu' L ∧ Locs w l L) ∧ Turn (FL B M l) w w' :=
  tp_fin2 hBX h (fun W W' hW hf => ⟨(hΦ W W' hW hf).2, l, rfl, (hΦ W W' hW hf).1, fun y hy k hk => Or.inl ⟨y, hy, hk⟩⟩)
theorem tp_cut {w w' : World} {R B M : Nat} {ro pa la now tu tu' : Int} {l l2 : List Pile} (hBX : BX w R B M ro pa la tu l) (h : TP w w' R B M ro pa now tu l (fun W W' => LayBox W W' R B M ro pa now tu' l l2)) (hl : ∀ y ∈ l2, y ∈ l) : (∃ L, L = l2 ∧ BX w' R B M ro pa now tu' L ∧ Locs w l L) ∧ Turn (FL B M l) w w' :=
  tp_fin2 hBX h (fun W W' hW hf => ⟨hf.2, l2, rfl, hf.1, fun y hy k hk => Or.inl ⟨y, hl y hy, hk⟩⟩)
theorem tp_more {w w' : World} {R B M : Nat} {ro pa la now tu tu' : Int} {l a b : List Pile} {at_ tx : Int} {ps : List Pk} {p : Pk} (hBX : BX w R B M ro pa la tu l) (h : TP w w' R B M ro pa now tu l (fun W W' => LayMore W W' R B M ro pa now tu' l a b at_ tx ps p)) (ha : ∀ y ∈ a, y ∈ l) (hb : ∀ y ∈ b, y ∈ l) :
    (∃ L, (∃ v' i, i ≤ ps.length ∧ Cutp ps p.fr i i ∧ L = a ++ ⟨mk p, at_, tx, v', insL ps i p⟩ :: b) ∧ BX w' R B M ro pa now tu' L ∧ Locs w l L) ∧ Turn (FL B M l) w w' :=
  tp_fin2 hBX h (fun W W' hW hf => by
    obtain ⟨v', i, h1, h2, h3, h4, h5⟩ := hf
    refine ⟨h4, _, ⟨v', i, h1, h2, rfl⟩, h3, fun y hy k hk => ?_⟩
    rcases List.mem_append.1 hy with hy | hy
    · exact Or.inl ⟨y, ha y hy, hk⟩
    · rcases List.mem_cons.1 hy with hy | hy
      · rw [hy] at hk; exact h5 k hk
      · exact Or.inl ⟨y, hb y hy, hk⟩)
theorem lay_turn {W W' : World} {R B M : Nat} {ro pa la tu : Int} {l a b : List Pile} {at_ tx : Int} {ps : List Pk} {p : Pk} (h : LayMore W W' R B M ro pa la tu l a b at_ tx ps p) : Turn (FL B M l) W W' := by
  obtain ⟨v', i, -, -, -, h4, -⟩ := h
  exact h4
set_option maxHeartbeats 4000000 in
theorem both_all {n0 : Nat} {w : World} {R B M K : Nat} {ro pa la tu : Int} {Z : List Cb} {v : Value} (h : PL w R B M K ro pa la tu Z v) (hn : n0 ≤ w.heap.size) (hB : n0 ≤ B) (hM : n0 ≤ M) (hK : n0 ≤ K) (hro : ro ≤ 64) (htu : tu ≤ 1000000) (p : Pk) (now : Int) (ho : p.op.size ≤ 1125899906842624) (hd : p.da.size ≤ 1125899906842624) : Both n0 w R B M K ro pa la tu Z p now := by
  have hlen := h.len
  have hll : (Z.map Cb.d).length ≤ 64 := by rw [List.length_map]; omega
  have hlp : (Z.map Cb.p).length ≤ 64 := by rw [List.length_map]; omega
  have htu0 := h.tu0
  have hpl : ∀ x ∈ Z.map Cb.d, x.ps.length ≤ 1000 := fun x hx => by
    obtain ⟨z, hz, rfl⟩ := List.mem_map.1 hx
    have := (h.ok z hz).same.len
    have e := (h.ok z hz).same.perm.length_eq
    show z.dps.length ≤ 1000
    omega
  have hfi : ∀ x ∈ Z.map Cb.d, ∀ q ∈ x.ps, q.Fine := fun x hx q hq => by
    obtain ⟨z, hz, rfl⟩ := List.mem_map.1 hx
    exact (h.ok z hz).same.fine q ((h.ok z hz).same.perm.mem_iff.2 hq)
  cases hmay : p.may with
  | false => exact both_A (q := pz) (ok := false) (code := 50) h hn (take_chk p hmay w R B M ro pa la tu _ h.bx now ho hd) (fun w2 h2 => rtake_chk p hmay h2 now ho hd)
  | true =>
    by_cases hnow : now < la ∨ 1099511627776 < now
    · exact both_A (q := pz) (ok := false) (code := 1) h hn (take_tick p hmay w R B M ro pa la tu _ h.bx now hnow) (fun w2 h2 => rtake_tick p hmay h2 now hnow)
    · have hn1 : la ≤ now := by omega
      have hn2 : now ≤ 1099511627776 := by omega
      have hp := may_fine hmay
      have hwf := may_wf hmay
      have hful := may_full hmay
      cases hwh : wholeB p.fr p.mo with
      | true =>
        refine both_B (q := p) (ok := true) (code := 0) (tu2 := tu) h hn hB hM hK hn1 hn2 (Int.le_refl _) (by omega) ((takeW p hmay w R B M ro pa la tu _ h.bx now hn1 hn2 hwh).mono fun e w' ⟨he, hT⟩ => ⟨he, tp_same h.bx hT (fun W W' hW e => ?_)⟩) (fun w2 h2 => rtake_whole p hmay h2 now hn1 hn2 hwh)
        subst e
        exact ⟨hW, Turn.refl _⟩
      | false =>
        have hcp : completeB [p] = false := by
          unfold wholeB at hwh
          unfold completeB gapless lastB gapless Pk.st
          by_cases e : p.fr = 0
          · rw [e] at hwh
            have hm : p.mo = true := by simpa using hwh
            simp [hm]
          · have : ¬ p.fr * 8 = 0 := by omega
            simp [this]
        by_cases hex : ∃ z ∈ Z, z.m = mk p
        · obtain ⟨a, z, b, rfl, hzm, hza⟩ := find_first hex
          have hzo := h.ok z (by simp)
          have hsm := hzo.same
          have hno : ∀ k x, k < a.length → ((a ++ z :: b).map Cb.d)[k]? = some x → ∃ q, x.ps[0]? = some q ∧ mk q ≠ mk p := fun k x hk hx => by
            rw [List.map_append, List.getElem?_append_left (by rw [List.length_map]; exact hk), List.getElem?_map] at hx
            obtain ⟨y, hy, rfl⟩ := Option.map_eq_some_iff.1 hx
            have hym := List.mem_of_getElem? hy
            have hyo := h.ok y (by simp [hym])
            have hyn : y.dps ≠ [] := fun e => hyo.same.ne (by have := hyo.same.perm; rw [e] at this; exact List.perm_nil.1 this)
            obtain ⟨q, r, hqr⟩ := List.exists_cons_of_ne_nil hyn
            refine ⟨q, by show y.dps[0]? = _; rw [hqr]; rfl, ?_⟩
            rw [hyo.mks q (hyo.same.perm.mem_iff.2 (by rw [hqr]; simp))]
            exact hza y hym
          have hye : ∀ x, ((a ++ z :: b).map Cb.d)[a.length]? = some x → ∃ q, x.ps[0]? = some q ∧ mk q = mk p := fun x hx => by
            rw [dat] at hx
            injection hx with hx
            subst hx
            have hyn : z.dps ≠ [] := fun e => hsm.ne (by have := hsm.perm; rw [e] at this; exact List.perm_nil.1 this)
            obtain ⟨q, r, hqr⟩ := List.exists_cons_of_ne_nil hyn
            exact ⟨q, by show z.dps[0]? = _; rw [hqr]; rfl, by rw [hzo.mks q (hsm.perm.mem_iff.2 (by rw [hqr]; simp))]; exact hzm⟩
          have hil : a.length < ((a ++ z :: b).map Cb.d).length := by simp
          have hmp : (a ++ z :: b).map Cb.p = a.map Cb.p ++ ⟨mk p, z.at_, z.tu, z.v, z.ps⟩ :: b.map Cb.p := by rw [← hzm]; simp [Cb.p]
          have hbx : ∀ {W : World} {la' tu' : Int}, BX W R B M ro pa la' tu' ((a ++ z :: b).map Cb.p) → BX W R B M ro pa la' tu' (a.map Cb.p ++ ⟨mk p, z.at_, z.tu, z.v, z.ps⟩ :: b.map Cb.p) := fun hW => hmp ▸ hW
          have hsom := h.so
          have hsub : ∀ y ∈ a ++ b, y ∈ a ++ z :: b := fun y hy => by
            rcases List.mem_append.1 hy with hy | hy
            · exact List.mem_append_left _ hy
            · exact List.mem_append_right _ (List.mem_cons_of_mem _ hy)
          have hsoc : (a ++ b).Pairwise (fun x y => x.tu < y.tu) := hsom.sublist (List.Sublist.append_left (List.sublist_cons_self _ _) _)
          have hlac : ((a ++ b).length : Int) ≤ ro := by have := h.len; simp at this ⊢; omega
          have hcut : ∀ l1 L1, l1 = (a ++ b).map Cb.p → L1 = (a ++ b).map Cb.d → ∃ Z' : List Cb, Z'.map Cb.p = l1 ∧ Z'.map Cb.d = L1 ∧ (∀ z ∈ Z', z.Ok) ∧ (∀ z ∈ Z', 0 ≤ z.at_ ∧ z.at_ ≤ now) ∧ (∀ z ∈ Z', 0 ≤ z.tu ∧ z.tu ≤ tu) ∧ Z'.Pairwise (fun x y => x.tu < y.tu) ∧ (Z'.length : Int) ≤ ro := fun l1 L1 e1 e2 => ⟨a ++ b, e1.symm, e2.symm, fun y hy => h.ok y (hsub y hy), fun y hy => by have := h.ats y (hsub y hy); omega, fun y hy => h.tus y (hsub y hy), hsoc, hlac⟩
          have hbm : (a ++ b).map Cb.p = a.map Cb.p ++ b.map Cb.p := List.map_append
          have hcl : ∀ y ∈ a.map Cb.p ++ b.map Cb.p, y ∈ (a ++ z :: b).map Cb.p := fun y hy => by
            rw [← hbm] at hy
            obtain ⟨c, hc, rfl⟩ := List.mem_map.1 hy
            exact List.mem_map_of_mem (hsub c hc)
          cases hhas : z.ps.any (hasB p) with
          | true =>
            refine both_B (q := pz) (ok := false) (code := 0) (tu2 := tu) h hn hB hM hK hn1 hn2 (Int.le_refl _) (by omega) ((take_no p hmay w R B M ro pa la tu _ h.bx now hn1 hn2 hwh (fun W W' => LayBox W W' R B M ro pa now tu ((a ++ z :: b).map Cb.p) ((a ++ z :: b).map Cb.p)) (fun W hW => ?_) (fun W W' _ hf => hf.2)).mono fun e w' ⟨he, hT⟩ => ⟨he, tp_same h.bx hT (fun W W' _ hf => hf)⟩) (fun w2 h2 => rtake_has p hmay h2 now hn1 hn2 hwh hll a.length hil hno hye hpl (fun x hx => ?_))
            · have := lay_has p hp hwf W R B M ro pa now tu (a.map Cb.p) (b.map Cb.p) z.at_ z.tu z.v z.ps (hbx hW) hsm.ne hhas
              rw [← hmp] at this
              exact this
            · rw [dat] at hx
              injection hx with hx
              subst hx
              have := hsm.has p
              rw [hhas, List.any_eq_true] at this
              exact this
          | false =>
            have hhd : ∀ x, ((a ++ z :: b).map Cb.d)[a.length]? = some x → ∀ q ∈ x.ps, sameB q p = false := fun x hx q hq => by
              rw [dat] at hx
              injection hx with hx
              subst hx
              have := hsm.has p
              rw [hhas, List.any_eq_false] at this
              have h9 := this q hq
              have h8 : hasB p q = false := by simpa using h9
              exact h8
            have hrf : rfitsB z.dps p = fitsL z.ps p := by rw [fits_same hful (fun x hx => hsm.full x (hsm.perm.mem_iff.2 hx))]; exact (fits_perm hsm.perm).symm
            have hrx : ∀ x, ((a ++ z :: b).map Cb.d)[a.length]? = some x → rfitsB x.ps p = fitsL z.ps p := fun x hx => by
              rw [dat] at hx
              injection hx with hx
              subst hx
              exact hrf
            cases hfit : fitsL z.ps p with
            | false =>
              refine both_C (q := pz) (ok := false) (code := 120) (tu2 := tu) h hn hB hM hK hn1 hn2 (Int.le_refl _) (by omega) (fun l1 => l1 = (a ++ b).map Cb.p) (fun L1 => L1 = (a ++ b).map Cb.d) ((take_bad p hmay w R B M ro pa la tu _ h.bx now hn1 hn2 hwh (fun W W' => LayBox W W' R B M ro pa now tu ((a ++ z :: b).map Cb.p) ((a ++ b).map Cb.p)) (fun W hW => ?_) (fun W W' _ hf => hf.2)).mono fun e w' ⟨he, hT⟩ => ⟨he, tp_cut h.bx hT (by rw [hbm]; exact hcl)⟩) (fun w2 h2 => ?_) hcut
              · have := lay_bado p hp hwf W R B M ro pa now tu (a.map Cb.p) (b.map Cb.p) z.at_ z.tu z.v z.ps (hbx hW) hsm.ne hhas hfit
                rw [← hmp, ← hbm] at this
                exact this
              · exact (rtake_bado p hmay h2 now hn1 hn2 hwh hll a.length hil hno hye hpl hfi hhd (fun x hx => (hrx x hx).trans hfit)).mono fun e w' ⟨he, hT⟩ => ⟨he, _, dcut, hT⟩
            | true =>
              obtain ⟨i0, hi0, hc0⟩ := cut_ex hsm.rise p.fr
              have hS := hsm.ins hp hful hhas hfit hi0 hc0
              have hdone : ∀ d, Ch (z.dps ++ [p]) d → (∀ q ∈ z.dps ++ [p], goesOn d.size q = false) → (completeB (insL z.ps i0 p) = (decide ((d.size : Int) = lastE (z.dps ++ [p]) (-1)) && (firstL (z.dps ++ [p])).isSome)) ∧ (completeB (insL z.ps i0 p) = true → d.data.toList = catL (insL z.ps i0 p) ∧ firstL (z.dps ++ [p]) = (insL z.ps i0 p).head?) :=
                fun d hd hg => done_same hS.perm hS.ne hS.rise hS.apart hS.nonneg hS.full hd hg
              have hfp := fun w2 (h2 : DX w2 K R ro pa la v ((a ++ z :: b).map Cb.d)) => rtake_fit p hmay h2 now hn1 hn2 hwh hll a.length hil hno hye hpl hfi hhd (fun x hx => (hrx x hx).trans hfit) z.d dat
              cases hcm : completeB (insL z.ps i0 p) with
              | false =>
                refine both_C (q := pz) (ok := false) (code := 0) (tu2 := tu) h hn hB hM hK hn1 hn2 (Int.le_refl _) (by omega) (fun l1 => ∃ v' i, i ≤ z.ps.length ∧ Cutp z.ps p.fr i i ∧ l1 = a.map Cb.p ++ ⟨mk p, z.at_, z.tu, v', insL z.ps i p⟩ :: b.map Cb.p) (fun L1 => ∃ vx, L1 = a.map Cb.d ++ ⟨z.at_, vx, z.dps ++ [p]⟩ :: b.map Cb.d) ((take_no p hmay w R B M ro pa la tu _ h.bx now hn1 hn2 hwh (fun W W' => LayMore W W' R B M ro pa now tu ((a ++ z :: b).map Cb.p) (a.map Cb.p) (b.map Cb.p) z.at_ z.tu z.ps p) (fun W hW => ?_) (fun W W' _ hf => lay_turn hf)).mono fun e w' ⟨he, hT⟩ => ⟨he, tp_more h.bx hT (fun y hy => hcl y (List.mem_append_left _ hy)) (fun y hy => hcl y (List.mem_append_right _ hy))⟩) (fun w2 h2 => ?_) ?_
                · have := lay_more p hp hwf W R B M ro pa now tu (a.map Cb.p) (b.map Cb.p) z.at_ z.tu z.v z.ps (hbx hW) hsm.ne (by rw [← hmp]; exact hlp) hhas hfit (fun i hi hc => by rw [cut_one hc hc0 hi hi0]; exact hcm)
                  rw [← hmp] at this
                  exact this
                · refine (hfp w2 h2).mono fun e w' hF => ?_
                  obtain ⟨d, hch, hgo, hF⟩ := hF
                  have hD := (hdone d hch hgo).1
                  rw [hcm] at hD
                  rcases hF with ⟨q, hq, hdn, -, -⟩ | ⟨-, he, vx, hT⟩
                  · have hq' : firstL (z.dps ++ [p]) = some q := hq
                    have hdn' : decide ((d.size : Int) = lastE (z.dps ++ [p]) (-1)) = true := hdn
                    rw [hq', hdn'] at hD
                    cases hD
                  · exact ⟨he, _, ⟨vx, dset _⟩, hT⟩
                · rintro l1 L1 ⟨v', i, hi, hc, rfl⟩ ⟨vx, rfl⟩
                  obtain rfl := cut_one hc hc0 hi hi0
                  refine ⟨a ++ ⟨mk p, z.at_, z.tu, v', insL z.ps i p, vx, z.dps ++ [p]⟩ :: b, by simp [Cb.p], by simp [Cb.d], ?_, ?_, ?_, ?_, ?_⟩
                  · intro y hy
                    rcases List.mem_append.1 hy with hy | hy
                    · exact h.ok y (by simp [hy])
                    · rcases List.mem_cons.1 hy with hy | hy
                      · rw [hy]
                        exact ⟨hS, fun q hq => (ins_mem hq).elim (fun e => by rw [e]) (fun e => (hzo.mks q e).trans hzm)⟩
                      · exact h.ok y (by simp [hy])
                  · intro y hy
                    rcases List.mem_append.1 hy with hy | hy
                    · have := h.ats y (by simp [hy]); omega
                    · rcases List.mem_cons.1 hy with hy | hy
                      · rw [hy]; have := h.ats z (by simp); show 0 ≤ z.at_ ∧ z.at_ ≤ now; omega
                      · have := h.ats y (by simp [hy]); omega
                  · intro y hy
                    rcases List.mem_append.1 hy with hy | hy
                    · exact h.tus y (by simp [hy])
                    · rcases List.mem_cons.1 hy with hy | hy
                      · rw [hy]; exact h.tus z (by simp)
                      · exact h.tus y (by simp [hy])
                  · rw [List.pairwise_append] at hsom ⊢
                    refine ⟨hsom.1, ?_, fun x hx y hy => ?_⟩
                    · have := hsom.2.1
                      rw [List.pairwise_cons] at this ⊢
                      exact this
                    · rcases List.mem_cons.1 hy with hy | hy
                      · rw [hy]; exact hsom.2.2 x hx z (by simp)
                      · exact hsom.2.2 x hx y (by simp [hy])
                  · have := h.len; simp at this ⊢; omega
              | true =>
                obtain ⟨q, hq⟩ : ∃ q, (insL z.ps i0 p)[0]? = some q := by
                  obtain ⟨q, r, hqr⟩ := List.exists_cons_of_ne_nil hS.ne
                  exact ⟨q, by rw [hqr]; rfl⟩
                refine both_C (q := { q with mo := false, da := ⟨(catL (insL z.ps i0 p)).toArray⟩ }) (ok := true) (code := 0) (tu2 := tu) h hn hB hM hK hn1 hn2 (Int.le_refl _) (by omega) (fun l1 => l1 = (a ++ b).map Cb.p) (fun L1 => L1 = (a ++ b).map Cb.d) ((take_yes p hmay w R B M ro pa la tu _ h.bx now hn1 hn2 q (catL (insL z.ps i0 p)) hwh (fun W W' => LayBox W W' R B M ro pa now tu ((a ++ z :: b).map Cb.p) ((a ++ b).map Cb.p)) (fun W hW => ?_) (fun W W' _ hf => hf.2)).mono fun e w' ⟨he, hT⟩ => ⟨he, tp_cut h.bx hT (by rw [hbm]; exact hcl)⟩) (fun w2 h2 => ?_) hcut
                · have := lay_whole p hp hwf W R B M ro pa now tu (a.map Cb.p) (b.map Cb.p) z.at_ z.tu z.v z.ps (hbx hW) hsm.ne q (catL (insL z.ps i0 p)) hhas hfit (fun i hi hc => by rw [cut_one hc hc0 hi hi0]; exact ⟨hcm, hq, rfl⟩)
                  rw [← hmp, ← hbm] at this
                  exact this
                · refine (hfp w2 h2).mono fun e w' hF => ?_
                  obtain ⟨d, hch, hgo, hF⟩ := hF
                  obtain ⟨hD, hE⟩ := hdone d hch hgo
                  obtain ⟨hE1, hE2⟩ := hE hcm
                  rw [hcm] at hD
                  rw [List.head?_eq_getElem?, hq] at hE2
                  rcases hF with ⟨q', hq', -, he, hT⟩ | ⟨hW, -⟩
                  · have e1 : some q' = some q := hq'.symm.trans hE2
                    injection e1 with e1
                    subst e1
                    rw [ds_eq hE1] at he
                    exact ⟨he, _, dcut, hT⟩
                  · rw [hE2] at hD
                    rcases hW with hW | hW
                    · have hW' : firstL (z.dps ++ [p]) = none := hW
                      rw [hE2] at hW'; cases hW'
                    · have hW' : decide ((d.size : Int) = lastE (z.dps ++ [p]) (-1)) = false := hW
                      rw [hW'] at hD; cases hD
        · have hnx : ∀ z ∈ Z, z.m ≠ mk p := fun z hz e => hex ⟨z, hz, e⟩
          have hnw : mk p ∉ (Z.map Cb.p).map (·.m) := fun hm => by
            rw [List.map_map] at hm
            obtain ⟨z, hz, e⟩ := List.mem_map.1 hm
            exact hnx z hz e
          have hno : ∀ x ∈ Z.map Cb.d, ∃ q, x.ps[0]? = some q ∧ mk q ≠ mk p := fun x hx => by
            obtain ⟨y, hy, rfl⟩ := List.mem_map.1 hx
            have hyo := h.ok y hy
            have hyn : y.dps ≠ [] := fun e => hyo.same.ne (by have := hyo.same.perm; rw [e] at this; exact List.perm_nil.1 this)
            obtain ⟨q, r, hqr⟩ := List.exists_cons_of_ne_nil hyn
            refine ⟨q, by show y.dps[0]? = _; rw [hqr]; rfl, ?_⟩
            rw [hyo.mks q (hyo.same.perm.mem_iff.2 (by rw [hqr]; simp))]
            exact hnx y hy
          have hdl : (((Z.map Cb.d).length : Nat) : Int) = (Z.length : Int) := by rw [List.length_map]
          have hpl' : (((Z.map Cb.p).length : Nat) : Int) = (Z.length : Int) := by rw [List.length_map]
          by_cases hroom : (Z.length : Int) < ro
          · have hrf : rfitsB [] p = fitsL [] p := fits_same hful (fun x hx => by cases hx)
            cases hfit : fitsL [] p with
            | false =>
              exact both_B (q := pz) (ok := false) (code := 120) (tu2 := tu + 1) h hn hB hM hK hn1 hn2 (by omega) (Int.le_refl _) ((take_bad p hmay w R B M ro pa la tu _ h.bx now hn1 hn2 hwh (fun W W' => LayBox W W' R B M ro pa now (tu + 1) (Z.map Cb.p) (Z.map Cb.p)) (fun W hW => lay_badn p hp hwf W R B M ro pa now tu _ hW hnw (by omega) hro htu0 (by omega) hfit) (fun W W' _ hf => hf.2)).mono fun e w' ⟨he, hT⟩ => ⟨he, tp_same h.bx hT (fun W W' _ hf => hf)⟩) (fun w2 h2 => rtake_badn p hmay h2 now hn1 hn2 hwh hll hno (by omega) (hrf.trans hfit))
            | true =>
              refine both_C (q := pz) (ok := false) (code := 0) (tu2 := tu + 1) h hn hB hM hK hn1 hn2 (by omega) (Int.le_refl _) (fun l1 => ∃ v' i, i ≤ ([] : List Pk).length ∧ Cutp [] p.fr i i ∧ l1 = Z.map Cb.p ++ ⟨mk p, now, tu + 1, v', insL [] i p⟩ :: []) (fun L1 => ∃ vx, L1 = Z.map Cb.d ++ [⟨now, vx, [p]⟩]) ((take_no p hmay w R B M ro pa la tu _ h.bx now hn1 hn2 hwh (fun W W' => LayMore W W' R B M ro pa now (tu + 1) (Z.map Cb.p) (Z.map Cb.p) [] now (tu + 1) [] p) (fun W hW => lay_new p hp hwf W R B M ro pa now tu _ hW hnw (by omega) hro htu0 (by omega) hfit hcp) (fun W W' _ hf => lay_turn hf)).mono fun e w' ⟨he, hT⟩ => ⟨he, tp_more h.bx hT (fun y hy => hy) (fun y hy => by cases hy)⟩) (fun w2 h2 => ?_) ?_
              · refine (rtake_new p hmay h2 now hn1 hn2 hwh hll hno (by omega) (hrf.trans hfit)).mono fun e w' hF => ?_
                obtain ⟨d, hch, hgo, hF⟩ := hF
                have hS := SameP.one hp hful
                have hD := (done_same hS.perm hS.ne hS.rise hS.apart hS.nonneg hS.full hch hgo).1
                rw [hcp] at hD
                rcases hF with ⟨q, hq, hdn, -, -⟩ | ⟨-, he, vx, hT⟩
                · rw [hq, hdn] at hD
                  cases hD
                · exact ⟨he, _, ⟨vx, rfl⟩, hT⟩
              · rintro l1 L1 ⟨v', i, hi, hc, rfl⟩ ⟨vx, rfl⟩
                have e0 : insL [] i p = [p] := by unfold insL; simp
                rw [e0]
                have hat := h.la0
                refine ⟨Z ++ [⟨mk p, now, tu + 1, v', [p], vx, [p]⟩], by simp [Cb.p], by simp [Cb.d], ?_, ?_, ?_, ?_, ?_⟩
                · intro y hy
                  rcases List.mem_append.1 hy with hy | hy
                  · exact h.ok y hy
                  · rw [List.mem_singleton.1 hy]
                    exact ⟨SameP.one hp hful, fun q hq => by rw [List.mem_singleton.1 hq]⟩
                · intro y hy
                  rcases List.mem_append.1 hy with hy | hy
                  · have := h.ats y hy; omega
                  · rw [List.mem_singleton.1 hy]; show 0 ≤ now ∧ now ≤ now; omega
                · intro y hy
                  rcases List.mem_append.1 hy with hy | hy
                  · have := h.tus y hy; omega
                  · rw [List.mem_singleton.1 hy]; show 0 ≤ tu + 1 ∧ tu + 1 ≤ tu + 1; omega
                · rw [List.pairwise_append]
                  refine ⟨h.so, List.pairwise_singleton _ _, fun x hx y hy => ?_⟩
                  rw [List.mem_singleton.1 hy]
                  have := h.tus x hx
                  show x.tu < tu + 1
                  omega
                · simp; omega
          · exact both_B (q := pz) (ok := false) (code := 150) (tu2 := tu) h hn hB hM hK hn1 hn2 (Int.le_refl _) (by omega) ((take_full p hmay w R B M ro pa la tu _ h.bx now hn1 hn2 hwh (fun W W' => LayBox W W' R B M ro pa now tu (Z.map Cb.p) (Z.map Cb.p)) (fun W hW => lay_full p hp hwf W R B M ro pa now tu _ hW hnw (by omega) hlp) (fun W W' _ hf => hf.2)).mono fun e w' ⟨he, hT⟩ => ⟨he, tp_same h.bx hT (fun W W' _ hf => hf)⟩) (fun w2 h2 => rtake_full p hmay h2 now hn1 hn2 hwh hll hno (by omega))
end Go.Proofs.Ytcjhniehbafhpaa
