/- the texts Jh, Jp, Ji, in part, merged by program -/
import Derived.Test.YtcjhniehbafhpaaProg
import Derived.Test.YtcjhniehbafhpaaRows
import Derived.Deep.QuietTactic
import Derived.BigQuiet
import Derived.WalkKit
import Derived.WalkSpells
import Derived.Laws.OwnMore
import Derived.Maps.RangeWalk
import Derived.Maps.OwnSet
import Derived.Maps.Ext
import Derived.Maps.Keyed
import Derived.DeepKeys4
import Derived.WalkSmall
import Derived.Deep.Cut
import Derived.Deep.CutRange
import Derived.Deep.MidRow
import Derived.Deep.RegionWith
import Derived.OwnWalk
import Derived.Laws.CopyRow
import Derived.OrdersHeld
import Derived.Shelf.Spec.SlicesInsert
import Derived.Lib.AppendZerosOnto
import Derived.Maps.AppendAt
import Derived.Lib.Overlaps
import Derived.Shelf.Strings.BuilderK
import Derived.Laws.AppendOwn
import Derived.Laws.AppendOwnNone
import Derived.Carry
import Derived.Shelf.SlSortCmp.WholeK
import Derived.Great.BuildSlice
import Derived.Shelf.SlSortCmp.NoneTotal
import Derived.Deep.RegionHeld3
import Derived.LoopN
import Derived.Test.YtcjhniehbafhpaaMA01
import Derived.Test.YtcjhniehbafhpaaMA02
import Derived.Test.YtcjhniehbafhpaaMA03
import Derived.Test.YtcjhniehbafhpaaMA04
import Derived.Test.YtcjhniehbafhpaaMA05
import Derived.Test.YtcjhniehbafhpaaMA06
import Derived.Test.YtcjhniehbafhpaaMA07
import Derived.Test.YtcjhniehbafhpaaMA08
import Derived.Test.YtcjhniehbafhpaaMA09
import Derived.Test.YtcjhniehbafhpaaMA10
import Derived.Test.YtcjhniehbafhpaaMA11
import Derived.Test.YtcjhniehbafhpaaMA12
namespace Go.Proofs.Ytcjhniehbafhpaa
open Go.RowKit Go.Maps
set_option maxRecDepth 100000
set_option linter.unusedVariables false
set_option linter.unusedSimpArgs false

theorem wpList_appendD {w : World} {ops : Array Oper} {rest : List Oper} {o : Oper} {a : Act} {Q : Exit → Act → World → Prop} (hgd : o.guard = none) (s x : Operand)
    (ho : o.op = .call { callee := .builtin .append, args := #[s, x], argTypes := #[42, 42] }) (R : Nat) (v : Value) (L : List De) (e : De) (g c : Nat) (hs : a.eval s = v) (hown : DO w R v L) (hx : a.eval x = .slice (some ⟨g, 0, none⟩) 1 c) (hr : ∀ j u, (enDe e)[j]? = some u → w.cell? ⟨g, j, none⟩ = some u) (h1c : e.2.oneCell' = true) (hR : R ≤ w.heap.size) (hlen : L.length < 1000000)
    (h : ∀ v' w', DO w' R v' (L ++ [e]) → Turn (fun k => v.ownBlock = some k) w w' → (∀ k, v'.ownBlock = some k → v.ownBlock = some k ∨ w.heap.size ≤ k) → wpList Try.prog ops Q rest (a.put o.dst v') w') : wpList Try.prog ops Q (o :: rest) a w := by
  obtain ⟨i0, hi, hz0, hz1, hz2⟩ := info_parts infoDe
  refine wpList_append_own_at _ hgd s x 42 ho R 64 i0 _ 2 32 Try.underlying42 hi hz0 hz1 hz2 rfl (by decide) v L.length (L.flatMap enDe) hs hown ⟨g, 0, none⟩ 1 c (enDe e) hx rfl ?_ (fun u hu => by
    simp [enDe] at hu
    rcases hu with rfl | rfl
    · rfl
    · exact h1c) (by unfold maxLen; omega) (by omega) hR ?_
  · intro j u hu
    rw [Addr.add_mid, Nat.zero_add]
    exact hr j u hu
  · intro v' w' h1 h2 h3 h4
    have hT : Turn (fun k => v.ownBlock = some k) w w' := Turn.of_grown h2 (fun j hj => Or.inl hj)
    have h1' : DO w' R v' (L ++ [e]) := by
      unfold DO
      rw [List.flatMap_append, List.length_append, List.length_singleton, List.flatMap_singleton]
      exact h1
    refine h v' w' h1' hT (fun k hk => ?_)
    rcases h4 with e | e
    · exact Or.inl (by rw [← e]; exact hk)
    · rw [e] at hk
      injection hk with hk
      exact Or.inr (by omega)
theorem wpList_bsliceD {w : World} {ops : Array Oper} {rest : List Oper} {op : Oper} {a : Act} {Q : Exit → Act → World → Prop} (hgd : op.guard = none) (i : Operand) (ho : op.op = .buildSlice 42 1 #[(0, i)]) (n : Int) (u : Value) (vs : Array Value) (hvs : vs = #[.int .i64 n, u]) (hi : a.eval i = .agg vs)
    (h : wpList Try.prog ops Q rest (a.put op.dst (.slice (some ⟨w.heap.size, 0, none⟩) 1 1)) (w.alloc (.cells vs 64))) : wpList Try.prog ops Q (op :: rest) a w := by
  subst hvs
  refine wpList_plain hgd fun K hK => ?_
  unfold Oper.wp execOp
  have e' : (#[(0, i)].map fun (p : Nat × Operand) => (p.1, a.eval p.2)) = #[(0, .agg #[.int .i64 n, u])] := by simp [hi]
  simp only [ho, Sem.run_bind]
  rw [e', bsD]
  exact hK _ _ h
structure DP where
  at_ : Int
  v : Value
  ps : List Pk
theorem DO.turn {S : Nat → Prop} {w w' : World} {R : Nat} {v : Value} {L : List De} (h : DO w R v L) (ht : Turn S w w') (hS : ∀ k, v.ownBlock = some k → ¬ S k) : DO w' R v L := by
  obtain ⟨i1, i2⟩ := h
  refine ⟨i1, ?_⟩
  rcases i2 with h | ⟨g, cap, cur, a1, a2, a3, a4⟩
  · exact Or.inl h
  · exact Or.inr ⟨g, cap, cur, a1, a2, (ht.block g (Array.getElem?_eq_some_iff.1 a3).1 (hS g (by rw [a1]; simp [Value.ownBlock]))).trans a3, a4⟩
theorem DO.later {w w' : World} {R : Nat} {v : Value} {L : List De} (h : DO w R v L) (hb : Below w.heap.size w w') : DO w' R v L := h.turn (S := fun _ => False) (Turn.of_below hb) (fun _ _ h => h)
def DP.e (x : DP) : De := (x.at_, x.v)
structure DX (w : World) (K base : Nat) (ro pa la : Int) (v : Value) (L : List DP) : Prop where
  box : At w K #[.int .i64 ro, .int .i64 pa, .int .i64 la, v]
  list : DR w base v (L.map DP.e)
  ok : ∀ x ∈ L, RW w base x.v x.ps
  kb : K < base
  bw : base ≤ w.heap.size
def dold (now pa : Int) (x : DP) : Bool := decide (x.at_ + pa ≤ now)
def dlate (gs : List DP) : List Pk := gs.filterMap fun x => firstL x.ps
theorem rw_cell {w : World} {R : Nat} {v : Value} {ps : List Pk} (h : RW w R v ps) : v.oneCell' = true := by
  obtain ⟨a, c, rfl⟩ := h.shape
  rfl
def GK (w w' : World) (K base : Nat) (ro pa now : Int) (L : List DP) (v : Value) : Prop := (∃ v2, DX w' K base ro pa now v2 (L.filter fun x => !dold now pa x) ∧ ∀ j, v2.ownBlock = some j → w.heap.size ≤ j) ∧ RW w' w.heap.size v (dlate (L.filter (dold now pa))) ∧ Turn (fun k => k = K) w w'
theorem rgo_f {w : World} {K base : Nat} {ro pa la : Int} {v : Value} {L : List DP} (h : DX w K base ro pa la v L) (now : Int) (hn : now < la ∨ 1099511627776 < now) :
    Calls Try.prog 12 #[.pointer (some ⟨K, 0, none⟩), .int .i64 now] w fun e w' => e = .returned (.tuple #[.slice none 0 0, .int .i64 1]) ∧ w' = w := by
  have hK := h.box
  clear h
  go_enter Try.func12, Try.ntmps12
  go_wp2_with fail
  refine (rtime_f K ro pa la now v w hK hn).mono ?_
  rintro e w1 ⟨rfl, rfl⟩
  go_wp2
  go_ret2
  exact ⟨rfl, rfl⟩
set_option maxHeartbeats 8000000 in
theorem rgo_t {w : World} {K base : Nat} {ro pa la : Int} {v : Value} {L : List DP} (h : DX w K base ro pa la v L) (now : Int) (hn1 : la ≤ now) (hn2 : now ≤ 1099511627776) (hp0 : 1 ≤ pa) (hp1 : pa ≤ 1048576) (hat : ∀ x ∈ L, 0 ≤ x.at_ ∧ x.at_ ≤ 1099511627776) (hll : L.length ≤ 64) (hpl : ∀ x ∈ L, x.ps.length ≤ 1000) :
    Calls Try.prog 12 #[.pointer (some ⟨K, 0, none⟩), .int .i64 now] w fun e w' => ∃ v, e = .returned (.tuple #[v, .int .i64 0]) ∧ GK w w' K base ro pa now L v := by
  have hK := h.box
  have hT := h.list
  have hkb := h.kb
  have hbw := h.bw
  have HOK : Hid (∀ x ∈ L, RW w base x.v x.ps) := h.ok
  have HAT : Hid (∀ x ∈ L, 0 ≤ x.at_ ∧ x.at_ ≤ 1099511627776) := hat
  have HPL : Hid (∀ x ∈ L, x.ps.length ≤ 1000) := hpl
  clear h hat hpl
  go_enter Try.func12, Try.ntmps12
  go_wp2_with fail
  refine (rtime_t K ro pa la now v w hK hn1 hn2).mono ?_
  rintro e w1 ⟨rfl, hK1, ht1⟩
  have hs1 := ht1.size
  have hT1 := hT.turn ht1 (fun k hk _ e => by omega)
  have HOK1 : Hid (∀ x ∈ L, RW w1 base x.v x.ps) := fun x hx => (HOK.out x hx).turn ht1 (fun k hk e => by have := (HOK.out x hx).ge k hk; omega)
  have HK1 : Hid (At w1 K #[.int .i64 ro, .int .i64 pa, .int .i64 now, v] ∧ Turn (fun k => k = K) w w1) := ⟨hK1, ht1⟩
  obtain ⟨pp, n, cc, hv⟩ := hT1.shape
  have hnl : n = L.length := by
    rcases hT1 with ⟨h1, h2⟩ | ⟨g, off, c, h1, -⟩
    · rw [hv] at h1
      injection h1 with _ h1
      rw [h1, ← List.length_map (f := DP.e), h2]
      rfl
    · rw [hv] at h1
      injection h1 with _ h1
      rw [h1, List.length_map]
  subst hnl
  subst hv
  have HT1 : Hid (DR w1 base (.slice pp L.length cc) (L.map DP.e)) := hT1
  have hli : (L.length : Int) ≤ 64 := by omega
  clear hK hT HOK hK1 ht1 hT1
  go_wp2
  go_loopw [7, 8, 9] (fun vo vl vi wr => ∃ (k : Nat) (vz vy : Value), vo = vz ∧ vl = vy ∧ k ≤ L.length ∧ vi = .int .i64 (k : Int) ∧ RW wr w1.heap.size vz (dlate ((L.take k).filter (dold now pa))) ∧ DO wr w1.heap.size vy (((L.take k).filter fun x => !dold now pa x).map DP.e) ∧ (∀ j, vz.ownBlock = some j → vy.ownBlock ≠ some j) ∧ Below w1.heap.size w1 wr) (fun _ _ vi _ => L.length - (intOf vi).toNat)
  case atStart => exact ⟨0, _, _, rfl, rfl, Nat.zero_le _, rfl, RW.nil _ _, DO.nil _ _, fun j hj => by simp [Value.ownBlock] at hj, Below.refl _ _⟩
  case round =>
    obtain ⟨k, vz, vy, rfl, rfl, hk, rfl, hrw, hdo, hap, hb⟩ := hrel
    have hKr := HK1.out.1.later hb
    obtain ⟨-, c1, -, c3⟩ := hKr.fourD
    by_cases hlt : k < L.length
    · obtain ⟨x, hx⟩ : ∃ x, L[k]? = some x := ⟨L[k], List.getElem?_eq_getElem hlt⟩
      have hxl := List.mem_of_getElem? hx
      have hrow := (HOK1.out x hxl).later hb
      obtain ⟨xa, xc, hxv⟩ := hrow.shape
      obtain ⟨g, off, rfl, hgw, e0, e1⟩ : ∃ g off, pp = some ⟨g, off, none⟩ ∧ g < w1.heap.size ∧ w1.cell? ⟨g, off + k * 2, none⟩ = some (.int .i64 x.at_) ∧ w1.cell? ⟨g, off + k * 2 + 1, none⟩ = some x.v := by
        rcases HT1.out with ⟨-, h2⟩ | ⟨g, off, c, h1, -, -, h3, h4⟩
        · rw [List.map_eq_nil_iff] at h2; rw [h2] at hlt; exact absurd hlt (Nat.not_lt_zero _)
        · injection h1 with h1
          have := h4 k x.e (by rw [List.getElem?_map, hx]; rfl)
          exact ⟨g, off, h1, h3, this⟩
      have e0 := later hb e0
      have e1 := later hb e1
      have hk1 : (k : Int) < (L.length : Int) := by omega
      have hk3 : (0 : Int) ≤ (k : Int) := by omega
      obtain ⟨ha0, ha1⟩ := HAT.out x hxl
      have hwr : IntKind.i64.wrap (x.at_ + pa) = x.at_ + pa := by rw [IntKind.wrap_i64]; omega
      have htk := takeL_snoc hx
      have hpl := HPL.out x hxl
      go_wp2_with fail
      go_quiet (fail)
      have qd : Below wr.heap.size wr (wr.drewN nq) := below_drewN (Below.refl _ _) nq
      replace hrw := hrw.later qd
      replace hdo := hdo.later qd
      replace hrow := hrow.later qd
      replace e0 := later qd e0
      replace e1 := later qd e1
      replace c1 := later qd c1
      replace c3 := later qd c3
      replace hb := bt hb qd
      clear qd hKr
      generalize wr.drewN nq = wd at *
      cases hold : dold now pa x with
      | false =>
        have hnl : now < x.at_ + pa := by have := of_decide_eq_false hold; omega
        have HST : Hid ((((L.take (k + 1)).filter (dold now pa)) = ((L.take k).filter (dold now pa))) ∧ (((L.take (k + 1)).filter fun x => !dold now pa x).map DP.e) = (((L.take k).filter fun x => !dold now pa x).map DP.e) ++ [(x.at_, x.v)]) := by
          show _ ∧ _
          rw [htk]; simp [List.filter_append, List.filter_cons, hold, DP.e]
        have hlen : (((L.take k).filter fun x => !dold now pa x).map DP.e).length < 1000000 := by
          rw [List.length_map]
          have := List.length_filter_le (fun x => !dold now pa x) (L.take k)
          rw [List.length_take] at this
          omega
        have h1c : x.v.oneCell' = true := rw_cell hrow
        have hrg : wd.rangeAt g (off + k * 2) [.int .i64 x.at_, x.v] := fun j u hu => by
          match j, hu with
          | 0, hu => simp at hu; rw [← hu]; exact e0
          | 1, hu => simp at hu; rw [← hu]; exact e1
        have hdA := hdo.later (bel1 wd (.cells #[.int .i64 x.at_, x.v] 64))
        have hRl : w1.heap.size ≤ (wd.alloc (.cells #[.int .i64 x.at_, x.v] 64)).heap.size := by have := (bel1 wd (.cells #[.int .i64 x.at_, x.v] 64)).size; have := hb.size; omega
        have HNW : Hid (∀ j u, (enDe (x.at_, x.v))[j]? = some u → (wd.alloc (.cells #[.int .i64 x.at_, x.v] 64)).cell? ⟨wd.heap.size, j, none⟩ = some u) := fun j u hu => ((At.box wd #[.int .i64 x.at_, x.v] 64).2 j u (by rw [List.getElem?_toArray]; exact hu)).1
        have hrwA := hrw.later (bel1 wd (.cells #[.int .i64 x.at_, x.v] 64))
        have hylt : ∀ j, u8.ownBlock = some j → w1.heap.size ≤ j ∧ j < wd.heap.size := fun j hj => ⟨hdo.ge j hj, (World.ownsRow.lt hdo j hj).2⟩
        have hzlt := hrw.lt
        clear htk hx hold hpl hrow
        generalize x.at_ = xat at *
        generalize x.v = xv at *
        go_upto_region 10 with fail
        go_wp2_with (first
          | (refine wpList_load_mid rfl 64 _ rfl g (off + k * 2) (by first | rfl | simp) _ _ hrg Try.underlying64 rfl (by kernel_rfl) ?_)
          | (refine wpList_bsliceD rfl _ rfl xat xv _ rfl rfl ?_)
          | (at_builtin; refine wpList_appendD rfl _ _ rfl w1.heap.size u8 _ (xat, xv) wd.heap.size 1 rfl hdA rfl HNW.out h1c hRl hlen ?_; intro vg w6 hr6 ht6 hv6)
          | go_in)
        have hb6 : Below w1.heap.size w1 w6 := (bt hb (bel1 wd (.cells #[.int .i64 xat, xv] 64))).trans (ht6.below hRl (fun j hj e => by have := hylt j e; omega))
        have HR6 : Hid (RW w6 w1.heap.size u7 (dlate ((L.take (k + 1)).filter (dold now pa))) ∧ DO w6 w1.heap.size vg (((L.take (k + 1)).filter fun x => !dold now pa x).map DP.e) ∧ (∀ j, u7.ownBlock = some j → vg.ownBlock ≠ some j)) := by
          refine ⟨?_, ?_, ?_⟩
          · rw [HST.out.1]; exact hrwA.turn ht6 (fun j hj e => hap j hj e)
          · rw [HST.out.2]; exact hr6
          · intro j hj e
            rcases hv6 j e with e | e
            · exact hap j hj e
            · have := hzlt j hj
              have := (bel1 wd (.cells #[.int .i64 xat, xv] 64)).size
              omega
        clear hr6 ht6 hv6 hdA hrwA hdo hrw HNW hap hylt hzlt
        go_wp2
        go_roundw
        case rel => exact ⟨k + 1, u7, vg, rfl, rfl, by omega, by first | rfl | simp, HR6.out.1, HR6.out.2.1, HR6.out.2.2, hb6⟩
        case measure => simp [intOf]; omega
      | true =>
        have hnl : ¬ now < x.at_ + pa := by have := of_decide_eq_true hold; omega
        have hlen : (dlate ((L.take k).filter (dold now pa))).length < 1000000 := by
          have := List.length_filterMap_le (fun x : DP => firstL x.ps) ((L.take k).filter (dold now pa))
          have h2 := List.length_filter_le (dold now pa) (L.take k)
          rw [List.length_take] at h2
          unfold dlate
          omega
        have HST : Hid ((((L.take (k + 1)).filter fun x => !dold now pa x)) = ((L.take k).filter fun x => !dold now pa x) ∧ dlate ((L.take (k + 1)).filter (dold now pa)) = dlate ((L.take k).filter (dold now pa)) ++ (firstL x.ps).toList) := by
          show _ ∧ _
          rw [htk, List.filter_append, List.filter_append]
          refine ⟨by simp [List.filter_cons, hold], ?_⟩
          unfold dlate
          rw [List.filterMap_append]
          congr 1
          simp only [List.filter_cons, hold, if_true, List.filter_nil, List.filterMap_cons, List.filterMap_nil]
          cases firstL x.ps <;> rfl
        have hF := first_any x.ps x.v base wd hrow hpl
        have hylt : ∀ j, u8.ownBlock = some j → w1.heap.size ≤ j ∧ j < wd.heap.size := fun j hj => ⟨hdo.ge j hj, (World.ownsRow.lt hdo j hj).2⟩
        have hzlt := hrw.lt
        clear htk hx hold hrow hxv
        cases hfi : firstL x.ps with
        | none =>
          have hfv : firstV x.ps = .tuple #[.agg #[.int .i64 0, .int .i64 0, .int .i64 0, .int .i64 0, .int .i64 0, .int .i64 0, .bool false, .bool false, .string ⟨#[]⟩, .string ⟨#[]⟩], .bool false] := by unfold firstV; rw [hfi]
          rw [hfv] at hF
          rw [hfi] at HST
          clear hfv hfi
          generalize x.at_ = xat at *
          generalize x.v = xv at *
          go_wp2_with fail
          refine hF.mono ?_
          rintro e w2 ⟨rfl, hb2⟩
          have hb2' := bt hb hb2
          go_upto_region 12 with (first
            | (refine wpList_store_at rfl 32 _ _ rfl _ w2.heap.size #[.int .i64 0, .int .i64 0, .int .i64 0, .int .i64 0, .int .i64 0, .int .i64 0, .bool false, .bool false, .string ⟨#[]⟩, .string ⟨#[]⟩] #[.int .i64 0, .int .i64 0, .int .i64 0, .int .i64 0, .int .i64 0, .int .i64 0, .bool false, .bool false, .string ⟨#[]⟩, .string ⟨#[]⟩] rfl rfl (At.box w2 #[.int .i64 0, .int .i64 0, .int .i64 0, .int .i64 0, .int .i64 0, .int .i64 0, .bool false, .bool false, .string ⟨#[]⟩, .string ⟨#[]⟩] 32) rfl (by kernel_rfl) (by simp [Value.oneCell']) ?_; intro w4 hQ4 ht4)
            | go_in)
          have q4 : Below w2.heap.size w2 w4 := (bel1 w2 (.cells #[.int .i64 0, .int .i64 0, .int .i64 0, .int .i64 0, .int .i64 0, .int .i64 0, .bool false, .bool false, .string ⟨#[]⟩, .string ⟨#[]⟩] 32)).trans (below_turn ht4 (Nat.le_refl _) (bel1 w2 _).size)
          have hb4 := bt hb2' q4
          have HR6 : Hid (RW w4 w1.heap.size u7 (dlate ((L.take (k + 1)).filter (dold now pa))) ∧ DO w4 w1.heap.size u8 (((L.take (k + 1)).filter fun x => !dold now pa x).map DP.e)) := by
            refine ⟨?_, ?_⟩
            · rw [HST.out.2]; simpa using (hrw.later hb2).later q4
            · rw [HST.out.1]; exact (hdo.later hb2).later q4
          clear hQ4 ht4 hdo hrw
          go_wp2
          go_roundw
          case rel => exact ⟨k + 1, u7, u8, rfl, rfl, by omega, by first | rfl | simp, HR6.out.1, HR6.out.2, hap, hb4⟩
          case measure => simp [intOf]; omega
        | some q =>
          have hfv : firstV x.ps = .tuple #[.agg #[.int .i64 q.f, .int .i64 q.t, .int .i64 q.tl, .int .i64 q.pr, .int .i64 q.id, .int .i64 q.fr, .bool q.mo, .bool q.dn, .string q.op, .string q.da], .bool true] := by unfold firstV; rw [hfi]
          rw [hfv] at hF
          rw [hfi] at HST
          clear hfv hfi
          generalize x.at_ = xat at *
          generalize x.v = xv at *
          go_wp2_with fail
          refine hF.mono ?_
          rintro e w2 ⟨rfl, hb2⟩
          have hb2' := bt hb hb2
          go_upto_region 12 with (first
            | (refine wpList_store_at rfl 32 _ _ rfl _ w2.heap.size #[.int .i64 0, .int .i64 0, .int .i64 0, .int .i64 0, .int .i64 0, .int .i64 0, .bool false, .bool false, .string ⟨#[]⟩, .string ⟨#[]⟩] #[.int .i64 q.f, .int .i64 q.t, .int .i64 q.tl, .int .i64 q.pr, .int .i64 q.id, .int .i64 q.fr, .bool q.mo, .bool q.dn, .string q.op, .string q.da] rfl rfl (At.box w2 #[.int .i64 0, .int .i64 0, .int .i64 0, .int .i64 0, .int .i64 0, .int .i64 0, .bool false, .bool false, .string ⟨#[]⟩, .string ⟨#[]⟩] 32) rfl (by kernel_rfl) (by simp [Value.oneCell']) ?_; intro w4 hQ4 ht4)
            | go_in)
          have q4 : Below w2.heap.size w2 w4 := (bel1 w2 (.cells #[.int .i64 0, .int .i64 0, .int .i64 0, .int .i64 0, .int .i64 0, .int .i64 0, .bool false, .bool false, .string ⟨#[]⟩, .string ⟨#[]⟩] 32)).trans (below_turn ht4 (Nat.le_refl _) (bel1 w2 _).size)
          have hb4 := bt hb2' q4
          have hrA := ((hrw.later hb2).later q4).later (bel1 w4 (.cells #[.int .i64 q.f, .int .i64 q.t, .int .i64 q.tl, .int .i64 q.pr, .int .i64 q.id, .int .i64 q.fr, .bool q.mo, .bool q.dn, .string q.op, .string q.da] 32))
          have hdA := ((hdo.later hb2).later q4).later (bel1 w4 (.cells #[.int .i64 q.f, .int .i64 q.t, .int .i64 q.tl, .int .i64 q.pr, .int .i64 q.id, .int .i64 q.fr, .bool q.mo, .bool q.dn, .string q.op, .string q.da] 32))
          have hRl : w1.heap.size ≤ (w4.alloc (.cells #[.int .i64 q.f, .int .i64 q.t, .int .i64 q.tl, .int .i64 q.pr, .int .i64 q.id, .int .i64 q.fr, .bool q.mo, .bool q.dn, .string q.op, .string q.da] 32)).heap.size := by have := (bel1 w4 (.cells #[.int .i64 q.f, .int .i64 q.t, .int .i64 q.tl, .int .i64 q.pr, .int .i64 q.id, .int .i64 q.fr, .bool q.mo, .bool q.dn, .string q.op, .string q.da] 32)).size; have := hb4.size; omega
          have HNW : Hid (∀ j u, q.L[j]? = some u → (w4.alloc (.cells #[.int .i64 q.f, .int .i64 q.t, .int .i64 q.tl, .int .i64 q.pr, .int .i64 q.id, .int .i64 q.fr, .bool q.mo, .bool q.dn, .string q.op, .string q.da] 32)).cell? ⟨w4.heap.size, j, none⟩ = some u) := fun j u hu => ((At.box w4 #[.int .i64 q.f, .int .i64 q.t, .int .i64 q.tl, .int .i64 q.pr, .int .i64 q.id, .int .i64 q.fr, .bool q.mo, .bool q.dn, .string q.op, .string q.da] 32).2 j u (by rw [List.getElem?_toArray]; exact hu)).1
          have hsz : wd.heap.size ≤ (w4.alloc (.cells #[.int .i64 q.f, .int .i64 q.t, .int .i64 q.tl, .int .i64 q.pr, .int .i64 q.id, .int .i64 q.fr, .bool q.mo, .bool q.dn, .string q.op, .string q.da] 32)).heap.size := by have := (bel1 w4 (.cells #[.int .i64 q.f, .int .i64 q.t, .int .i64 q.tl, .int .i64 q.pr, .int .i64 q.id, .int .i64 q.fr, .bool q.mo, .bool q.dn, .string q.op, .string q.da] 32)).size; have := hb2.size; have := q4.size; omega
          go_upto_region 13 with fail
          go_wp2_with (first
            | (refine wpList_load_at rfl 32 _ rfl _ w2.heap.size #[.int .i64 q.f, .int .i64 q.t, .int .i64 q.tl, .int .i64 q.pr, .int .i64 q.id, .int .i64 q.fr, .bool q.mo, .bool q.dn, .string q.op, .string q.da] _ rfl hQ4 Try.underlying32 (by kernel_rfl) ?_)
            | (refine wpList_bsliceP2 rfl _ rfl q #[.int .i64 q.f, .int .i64 q.t, .int .i64 q.tl, .int .i64 q.pr, .int .i64 q.id, .int .i64 q.fr, .bool q.mo, .bool q.dn, .string q.op, .string q.da] rfl rfl ?_)
            | (at_builtin; refine wpList_appendP2 rfl _ _ rfl w1.heap.size u7 _ q w4.heap.size 1 rfl hrA rfl HNW.out hRl hlen ?_; intro vg w6 hr6 ht6 hv6)
            | go_in)
          have hb6 : Below w1.heap.size w1 w6 := (bt hb4 (bel1 w4 (.cells #[.int .i64 q.f, .int .i64 q.t, .int .i64 q.tl, .int .i64 q.pr, .int .i64 q.id, .int .i64 q.fr, .bool q.mo, .bool q.dn, .string q.op, .string q.da] 32))).trans (ht6.below hRl (fun j hj e => by have := hrA.ge j e; omega))
          have HR6 : Hid (RW w6 w1.heap.size vg (dlate ((L.take (k + 1)).filter (dold now pa))) ∧ DO w6 w1.heap.size u8 (((L.take (k + 1)).filter fun x => !dold now pa x).map DP.e) ∧ (∀ j, vg.ownBlock = some j → u8.ownBlock ≠ some j)) := by
            refine ⟨?_, ?_, ?_⟩
            · rw [HST.out.2]; exact hr6
            · rw [HST.out.1]; exact hdA.turn ht6 (fun j hj e => hap j e hj)
            · intro j hj e
              rcases hv6 j hj with h | h
              · exact hap j h e
              · have := hylt j e; omega
          clear hr6 ht6 hv6 hrA hdA hQ4 HNW ht4 hdo hrw
          go_wp2
          go_roundw
          case rel => exact ⟨k + 1, vg, u8, rfl, rfl, by omega, by first | rfl | simp, HR6.out.1, HR6.out.2.1, HR6.out.2.2, hb6⟩
          case measure => simp [intOf]; omega
    · have hk1 : ¬ (k : Int) < (L.length : Int) := by omega
      have hkl : k = L.length := by omega
      subst hkl
      rw [List.take_length] at hrw hdo
      have f3 := (hKr.2 3 _ rfl).2
      obtain ⟨p8, n8, c8, h8⟩ := hdo.dr.shape
      subst h8
      have kt := turn_set wr K 3 (.slice p8 n8 c8)
      have hsz := hb.size
      have HEND : Hid (GK w (wr.setCell ⟨K, 3, none⟩ (.slice p8 n8 c8)) K base ro pa now L u7) := by
        refine ⟨⟨_, ⟨hKr.set 3 _, (hdo.dr.low (by omega)).turn kt (fun j hj _ e => by omega), fun x hx => ?_, hkb, by have := kt.size; omega⟩, fun j hj => Nat.le_trans hs1 (hdo.ge j hj)⟩, ?_, (HK1.out.2.later hb).trans kt⟩
        · have := HOK1.out x (List.mem_filter.1 hx).1
          exact (this.later hb).turn kt (fun j hj e => by have := this.ge j hj; omega)
        · exact (hrw.turn kt (fun j hj e => by have := hrw.ge j hj; omega)).low hs1
      clear hrw hdo hap hb kt HK1 HOK1 HT1 HAT HPL
      go_wp2
      go_ret2
      exact ⟨_, rfl, HEND.out⟩
end Go.Proofs.Ytcjhniehbafhpaa

namespace Go.Proofs.Ytcjhniehbafhpaa
open Go.RowKit Go.Maps
set_option maxRecDepth 100000
set_option linter.unusedVariables false
set_option linter.unusedSimpArgs false

theorem append_rw {w : World} {base R2 : Nat} {v vs : Value} {A B : List Pk} (h1 : RW w base v A) (h2 : RW w R2 vs B) (hb : base ≤ w.heap.size) (hl : A.length + B.length < 1000000) (ty : TypeId) :
    ∃ v' w', (Builtin.append_ #[36, 36] ty #[v, vs]).run Try.prog w = .ok v' w' ∧ RW w' base v' (A ++ B) ∧ Turn (fun k => v.ownBlock = some k) w w' ∧ (∀ k, v'.ownBlock = some k → v.ownBlock = some k ∨ w.heap.size ≤ k) := by
  obtain ⟨i0, hi, hz0, hz1, hz2⟩ := info_parts infoP2
  by_cases hB : B = []
  · subst hB
    rcases h2.2 with ⟨rfl, -⟩ | ⟨g, cap, cur, rfl, q1, q2, q3, q4, q5, q6⟩
    · exact ⟨v, w, run_append_owned_none (P := Try.prog) (w := w) base 36 ty 32 i0 10 Try.underlying36 hi v A.length _ h1, by rw [List.append_nil]; exact h1, Turn.refl _, fun k hk => Or.inl hk⟩
    · obtain ⟨v', w', hr, ho', hg, hw4⟩ := run_append_own_at (P := Try.prog) w base 36 ty 32 i0 _ 10 88 Try.underlying36 hi hz0 hz1 hz2 rfl (by decide) v A.length _ h1 ⟨g, 0, none⟩ 0 cap [] rfl (fun j u hu => by simp at hu) (fun u hu => by simp at hu) (by unfold maxLen; omega) (by omega) hb
      refine ⟨v', w', hr, ?_, Turn.of_grown hg (fun j hj => Or.inl hj), fun k hk => ?_⟩
      · rw [List.append_nil]; rw [List.append_nil] at ho'; exact ho'
      · rcases hw4.2 with e | e
        · exact Or.inl (by rw [← e]; exact hk)
        · rw [e] at hk
          injection hk with hk
          exact Or.inr (by omega)
  · obtain ⟨g, c, cur, rfl, q1, q2, q3, q4, q5, q6⟩ := h2.real hB
    obtain ⟨v', w', hr, ho', hg, hw4⟩ := run_append_own_at (P := Try.prog) w base 36 ty 32 i0 _ 10 88 Try.underlying36 hi hz0 hz1 hz2 rfl (by decide) v A.length _ h1 ⟨g, 0, none⟩ B.length c (flatP B) (flatP_len B) (fun j u hu => by
      have hj := (List.getElem?_eq_some_iff.1 hu).1
      rw [flatP_len] at hj
      have e : j = (j / 10) * 10 + j % 10 := by omega
      obtain ⟨x, hx⟩ : ∃ x, B[j / 10]? = some x := ⟨B[j / 10]'(by omega), List.getElem?_eq_getElem (by omega)⟩
      rw [e, flatP_at B _ _ x hx (by omega)] at hu
      rw [Addr.add_mid, Nat.zero_add, e]
      exact h2.cells hx _ u hu) (oneF B) (by unfold maxLen; omega) (by omega) hb
    refine ⟨v', w', hr, ?_, Turn.of_grown hg (fun j hj => Or.inl hj), fun k hk => ?_⟩
    · unfold RW
      rw [List.length_append, flatP_app]
      exact ho'
    · rcases hw4.2 with e | e
      · exact Or.inl (by rw [← e]; exact hk)
      · rw [e] at hk
        injection hk with hk
        exact Or.inr (by omega)
theorem bs0P (w : World) : (Instr.buildSlice 36 0 #[]).run Try.prog w = .ok (.slice (some ⟨w.heap.size, 0, none⟩) 0 0) (w.alloc (.cells #[] 32)) := by kernel_rfl
theorem step_b0P {w : World} {ops : Array Oper} {o : Oper} {a : Act} {K : Act → World → Prop} {Q : Exit → Act → World → Prop} {E : Prop} (hgd : o.guard = none) (ho : o.op = .buildSlice 36 0 #[]) (base : Nat) (hb : base ≤ w.heap.size)
    (h : ∀ g w', w.heap.size ≤ g → g < w'.heap.size → RW w' base (.slice (some ⟨g, 0, none⟩) 0 0) [] → Below w.heap.size w w' → K (a.put o.dst (.slice (some ⟨g, 0, none⟩) 0 0)) w') : if Region.wanted o (yielded ops a.tmps) = true then Oper.wp Try.prog o a w K Q else E := by
  have hw : Region.wanted o (yielded ops a.tmps) = true := by simp [Region.wanted, hgd]
  rw [if_pos hw]
  unfold Oper.wp
  simp [execOp, ho, bs0P, Result.andThen]
  exact h _ _ (Nat.le_refl _) (by simp) (World.ownsRow_lit w #[] 0 hb (by unfold maxLen; omega) rfl) (bel1 _ _)
theorem step_b0D {w : World} {ops : Array Oper} {o : Oper} {a : Act} {K : Act → World → Prop} {Q : Exit → Act → World → Prop} {E : Prop} (hgd : o.guard = none) (ho : o.op = .buildSlice 42 0 #[]) (base : Nat) (hb : base ≤ w.heap.size)
    (h : ∀ g w', w.heap.size ≤ g → g < w'.heap.size → DO w' base (.slice (some ⟨g, 0, none⟩) 0 0) [] → Below w.heap.size w w' → K (a.put o.dst (.slice (some ⟨g, 0, none⟩) 0 0)) w') : if Region.wanted o (yielded ops a.tmps) = true then Oper.wp Try.prog o a w K Q else E := by
  have hw : Region.wanted o (yielded ops a.tmps) = true := by simp [Region.wanted, hgd]
  rw [if_pos hw]
  unfold Oper.wp
  simp [execOp, ho, bs0D, Result.andThen]
  exact h _ _ (Nat.le_refl _) (by simp) (World.ownsRow_lit w #[] 0 hb (by unfold maxLen; omega) rfl) (bel1 _ _)
theorem rw_one (p : Pk) (w : World) (base : Nat) (hb : base ≤ w.heap.size) : RW (w.alloc (.cells #[.int .i64 p.f, .int .i64 p.t, .int .i64 p.tl, .int .i64 p.pr, .int .i64 p.id, .int .i64 p.fr, .bool p.mo, .bool p.dn, .string p.op, .string p.da] 32)) base (.slice (some ⟨w.heap.size, 0, none⟩) 1 1) [p] := by
  refine ⟨by simp [flatP, Pk.L], Or.inr ⟨w.heap.size, 1, #[.int .i64 p.f, .int .i64 p.t, .int .i64 p.tl, .int .i64 p.pr, .int .i64 p.id, .int .i64 p.fr, .bool p.mo, .bool p.dn, .string p.op, .string p.da], rfl, hb, by simp only [World.alloc]; exact Array.getElem?_push_size, Nat.le_refl _, (by unfold maxLen; omega), rfl, ?_⟩⟩
  simp [flatP, Pk.L]
theorem do_one (e : De) (w : World) (base : Nat) (hb : base ≤ w.heap.size) : DO (w.alloc (.cells #[.int .i64 e.1, e.2] 64)) base (.slice (some ⟨w.heap.size, 0, none⟩) 1 1) [e] := by
  refine ⟨by simp [enDe], Or.inr ⟨w.heap.size, 1, #[.int .i64 e.1, e.2], rfl, hb, by simp only [World.alloc]; exact Array.getElem?_push_size, Nat.le_refl _, (by unfold maxLen; omega), rfl, ?_⟩⟩
  simp [enDe]
theorem step_bsP {w : World} {ops : Array Oper} {o : Oper} {a : Act} {K : Act → World → Prop} {Q : Exit → Act → World → Prop} {E : Prop} (hgd : o.guard = none) (x : Operand) (ho : o.op = .buildSlice 36 1 #[(0, x)]) (p : Pk) (hx : a.eval x = .agg #[.int .i64 p.f, .int .i64 p.t, .int .i64 p.tl, .int .i64 p.pr, .int .i64 p.id, .int .i64 p.fr, .bool p.mo, .bool p.dn, .string p.op, .string p.da]) (base : Nat) (hb : base ≤ w.heap.size)
    (h : ∀ g w', w.heap.size ≤ g → g < w'.heap.size → RW w' base (.slice (some ⟨g, 0, none⟩) 1 1) [p] → Below w.heap.size w w' → K (a.put o.dst (.slice (some ⟨g, 0, none⟩) 1 1)) w') : if Region.wanted o (yielded ops a.tmps) = true then Oper.wp Try.prog o a w K Q else E := by
  have hw : Region.wanted o (yielded ops a.tmps) = true := by simp [Region.wanted, hgd]
  rw [if_pos hw]
  have e' : (#[(0, x)].map fun (p : Nat × Operand) => (p.1, a.eval p.2)) = #[(0, .agg #[.int .i64 p.f, .int .i64 p.t, .int .i64 p.tl, .int .i64 p.pr, .int .i64 p.id, .int .i64 p.fr, .bool p.mo, .bool p.dn, .string p.op, .string p.da])] := by simp [hx]
  unfold Oper.wp execOp
  simp only [ho, Sem.run_bind]
  rw [e', bsP2]
  exact h _ _ (Nat.le_refl _) (by simp) (rw_one p w base hb) (bel1 _ _)
theorem step_bsD {w : World} {ops : Array Oper} {o : Oper} {a : Act} {K : Act → World → Prop} {Q : Exit → Act → World → Prop} {E : Prop} (hgd : o.guard = none) (x : Operand) (ho : o.op = .buildSlice 42 1 #[(0, x)]) (e : De) (hx : a.eval x = .agg #[.int .i64 e.1, e.2]) (base : Nat) (hb : base ≤ w.heap.size)
    (h : ∀ g w', w.heap.size ≤ g → g < w'.heap.size → DO w' base (.slice (some ⟨g, 0, none⟩) 1 1) [e] → Below w.heap.size w w' → K (a.put o.dst (.slice (some ⟨g, 0, none⟩) 1 1)) w') : if Region.wanted o (yielded ops a.tmps) = true then Oper.wp Try.prog o a w K Q else E := by
  have hw : Region.wanted o (yielded ops a.tmps) = true := by simp [Region.wanted, hgd]
  rw [if_pos hw]
  have e' : (#[(0, x)].map fun (p : Nat × Operand) => (p.1, a.eval p.2)) = #[(0, .agg #[.int .i64 e.1, e.2])] := by simp [hx]
  unfold Oper.wp execOp
  simp only [ho, Sem.run_bind]
  rw [e', bsD]
  exact h _ _ (Nat.le_refl _) (by simp) (do_one e w base hb) (bel1 _ _)
theorem step_appP {w : World} {ops : Array Oper} {o : Oper} {a : Act} {K : Act → World → Prop} {Q : Exit → Act → World → Prop} {E : Prop} (hgd : o.guard = none) (s x : Operand) (ho : o.op = .call { callee := .builtin .append, args := #[s, x], argTypes := #[36, 36] }) {base R2 : Nat} {v vs : Value} {A B : List Pk} (hs : a.eval s = v) (hx : a.eval x = vs) (h1 : RW w base v A) (h2 : RW w R2 vs B) (hb : base ≤ w.heap.size) (hl : A.length + B.length < 1000000)
    (h : ∀ a' n' c' w', RW w' base (.slice a' n' c') (A ++ B) → Turn (fun k => v.ownBlock = some k) w w' → (∀ k, (Value.slice a' n' c').ownBlock = some k → v.ownBlock = some k ∨ w.heap.size ≤ k) → Below base w w' → K (a.put o.dst (.slice a' n' c')) w') : if Region.wanted o (yielded ops a.tmps) = true then Oper.wp Try.prog o a w K Q else E := by
  obtain ⟨v', w', hr, hrw, ht, hk⟩ := append_rw h1 h2 hb hl o.type
  obtain ⟨a', c', rfl⟩ := hrw.shape
  exact step_append_eqD hgd s x ho hs hx hr (h a' _ c' w' hrw ht hk (ht.below hb (fun k hk e => by have := h1.ge k e; omega)))
theorem step_appD {w : World} {ops : Array Oper} {o : Oper} {a : Act} {K : Act → World → Prop} {Q : Exit → Act → World → Prop} {E : Prop} (hgd : o.guard = none) (s x : Operand) (ho : o.op = .call { callee := .builtin .append, args := #[s, x], argTypes := #[42, 42] }) {base R2 : Nat} {v vs : Value} {A B : List De} (hs : a.eval s = v) (hx : a.eval x = vs) (h1 : DO w base v A) (h2 : DR w R2 vs B) (hone : ∀ e ∈ B, e.2.oneCell' = true) (hb : base ≤ w.heap.size) (hl : A.length + B.length < 1000000)
    (h : ∀ a' n' c' w', DO w' base (.slice a' n' c') (A ++ B) → Turn (fun k => v.ownBlock = some k) w w' → (∀ k, (Value.slice a' n' c').ownBlock = some k → v.ownBlock = some k ∨ w.heap.size ≤ k) → Below base w w' → K (a.put o.dst (.slice a' n' c')) w') : if Region.wanted o (yielded ops a.tmps) = true then Oper.wp Try.prog o a w K Q else E := by
  obtain ⟨v', w', hr, hrw, ht, hk⟩ := append_dr4 h1 h2 hone hb hl o.type
  obtain ⟨a', n', c', rfl⟩ := hrw.dr.shape
  exact step_append_eqD hgd s x ho hs hx hr (h a' n' c' w' hrw ht hk (ht.below hb (fun k hk e => by have := h1.ge k e; omega)))
theorem step_storeA {w : World} {ops : Array Oper} {o : Oper} {a : Act} {K : Act → World → Prop} {Q : Exit → Act → World → Prop} {E : Prop} (hgd : o.guard = none) (ty : TypeId) (x y : Operand) (ho : o.op = .store ty x y) (b : Nat) (old vs : Array Value) (hx : a.eval x = .pointer (some ⟨b, 0, none⟩)) (hy : a.eval y = .agg vs) (hA : At w b old) (hzs : old.size = vs.size) (hi : (Try.prog.info? ty).map (·.size) = some vs.size) (h1 : vs.all (·.oneCell') = true)
    (h : ∀ w', At w' b vs → Turn (fun k => k = b) w w' → K (a.put o.dst undef) w') : if Region.wanted o (yielded ops a.tmps) = true then Oper.wp Try.prog o a w K Q else E := by
  have hw : Region.wanted o (yielded ops a.tmps) = true := by simp [Region.wanted, hgd]
  rw [if_pos hw]
  exact wp_store_mid ty x y ho b 0 vs hx hy (by rw [← hzs]; exact at_there hA) hi h1 (h _ (at_whole hA hzs) (turn_setCells b _ _ _))
theorem DR.turnB {S : Nat → Prop} {w w' : World} {base : Nat} {v : Value} {L : List De} (h : DR w base v L) (ht : Turn S w w') (hS : ∀ k, v.ownBlock = some k → ¬ S k) : DR w' base v L := by
  rcases h with h | ⟨g, off, c, h1, h2, h3, h4, h5⟩
  · exact Or.inl h
  · have hg := hS g (by rw [h1]; rfl)
    exact Or.inr ⟨g, off, c, h1, h2, h3, Nat.lt_of_lt_of_le h4 ht.size, fun i e he => ⟨(ht.cell h4 hg _).trans (h5 i e he).1, (ht.cell h4 hg _).trans (h5 i e he).2⟩⟩
theorem rw_do_ne {w : World} {b1 b2 : Nat} {v1 v2 : Value} {A : List Pk} {B : List De} (h : RW w b1 v1 A) (k : DO w b2 v2 B) : ∀ j, v1.ownBlock = some j → v2.ownBlock = some j → False := by
  intro j e1 e2
  rcases h.2 with ⟨rfl, -⟩ | ⟨g, cap, cur, rfl, -, hb, -⟩
  · cases e1
  · cases e1
    rcases k.2 with ⟨rfl, -⟩ | ⟨g', cap', cur', rfl, -, hb', -⟩
    · cases e2
    · cases e2
      rw [hb] at hb'
      cases hb'
end Go.Proofs.Ytcjhniehbafhpaa

namespace Go.Proofs.Ytcjhniehbafhpaa
open Go.RowKit Go.Maps
set_option maxRecDepth 100000
set_option linter.unusedVariables false
set_option linter.unusedSimpArgs false

set_option maxHeartbeats 4000000 in
theorem rtake_chk (p : Pk) (hmay : p.may = false) {w : World} {K base : Nat} {ro pa la : Int} {v : Value} {L : List DP} (h : DX w K base ro pa la v L) (now : Int) (ho : p.op.size ≤ 1125899906842624) (hd : p.da.size ≤ 1125899906842624) :
    Calls Try.prog 14 #[.pointer (some ⟨K, 0, none⟩), .agg #[.int .i64 p.f, .int .i64 p.t, .int .i64 p.tl, .int .i64 p.pr, .int .i64 p.id, .int .i64 p.fr, .bool p.mo, .bool p.dn, .string p.op, .string p.da], .int .i64 now] w fun e w' => e = .returned (.tuple #[.agg #[.int .i64 0, .int .i64 0, .int .i64 0, .int .i64 0, .int .i64 0, .int .i64 0, .bool false, .bool false, .string ⟨#[]⟩, .string ⟨#[]⟩], .bool false, .int .i64 50]) ∧ Below w.heap.size w w' := by
  have hPb := (At.box w #[.int .i64 p.f, .int .i64 p.t, .int .i64 p.tl, .int .i64 p.pr, .int .i64 p.id, .int .i64 p.fr, .bool p.mo, .bool p.dn, .string p.op, .string p.da] 32).later (bel1 _ (.cells #[.int .i64 0, .int .i64 0, .int .i64 0, .int .i64 0, .int .i64 0, .int .i64 0, .bool false, .bool false, .string ⟨#[]⟩, .string ⟨#[]⟩] 32))
  have hZb := At.box2 w (.cells #[.int .i64 p.f, .int .i64 p.t, .int .i64 p.tl, .int .i64 p.pr, .int .i64 p.id, .int .i64 p.fr, .bool p.mo, .bool p.dn, .string p.op, .string p.da] 32) #[.int .i64 0, .int .i64 0, .int .i64 0, .int .i64 0, .int .i64 0, .int .i64 0, .bool false, .bool false, .string ⟨#[]⟩, .string ⟨#[]⟩] 32
  have hl0 := bt (bel1 w (.cells #[.int .i64 p.f, .int .i64 p.t, .int .i64 p.tl, .int .i64 p.pr, .int .i64 p.id, .int .i64 p.fr, .bool p.mo, .bool p.dn, .string p.op, .string p.da] 32)) (bel1 _ (.cells #[.int .i64 0, .int .i64 0, .int .i64 0, .int .i64 0, .int .i64 0, .int .i64 0, .bool false, .bool false, .string ⟨#[]⟩, .string ⟨#[]⟩] 32))
  clear h
  go_enter Try.func14, Try.ntmps14
  go_upto_region 1 with fail
  generalize (w.alloc (.cells #[.int .i64 p.f, .int .i64 p.t, .int .i64 p.tl, .int .i64 p.pr, .int .i64 p.id, .int .i64 p.fr, .bool p.mo, .bool p.dn, .string p.op, .string p.da] 32)).alloc (.cells #[.int .i64 0, .int .i64 0, .int .i64 0, .int .i64 0, .int .i64 0, .int .i64 0, .bool false, .bool false, .string ⟨#[]⟩, .string ⟨#[]⟩] 32) = W0 at *
  go_wp2_with (first | (refine wpList_load_at rfl 32 _ rfl _ w.heap.size #[.int .i64 p.f, .int .i64 p.t, .int .i64 p.tl, .int .i64 p.pr, .int .i64 p.id, .int .i64 p.fr, .bool p.mo, .bool p.dn, .string p.op, .string p.da] _ rfl hPb Try.underlying32 (by kernel_rfl) ?_) | fail)
  refine (rchk_f (dn := p.dn) hmay _ ho hd).mono ?_
  rintro e w1 ⟨rfl, l1⟩
  replace hZb := hZb.later l1
  replace hl0 := bt hl0 l1
  clear hPb l1
  go_wp2_with (first
    | (refine wpList_store_at rfl 32 _ _ rfl _ (w.heap.size + 1) #[.int .i64 0, .int .i64 0, .int .i64 0, .int .i64 0, .int .i64 0, .int .i64 0, .bool false, .bool false, .string ⟨#[]⟩, .string ⟨#[]⟩] #[.int .i64 0, .int .i64 0, .int .i64 0, .int .i64 0, .int .i64 0, .int .i64 0, .bool false, .bool false, .string ⟨#[]⟩, .string ⟨#[]⟩] rfl rfl hZb rfl (by kernel_rfl) oneZ ?_; intro w5 hZ5 ht5))
  have r0 := (hZ5.2 0 _ rfl).1
  have r1 := (hZ5.2 1 _ rfl).1
  have r2 := (hZ5.2 2 _ rfl).1
  have r3 := (hZ5.2 3 _ rfl).1
  have r4 := (hZ5.2 4 _ rfl).1
  have r5 := (hZ5.2 5 _ rfl).1
  have r6 := (hZ5.2 6 _ rfl).1
  have r7 := (hZ5.2 7 _ rfl).1
  have r8 := (hZ5.2 8 _ rfl).1
  have r9 := (hZ5.2 9 _ rfl).1
  exact bodyPost_ret (v := .tuple #[.agg #[.int .i64 0, .int .i64 0, .int .i64 0, .int .i64 0, .int .i64 0, .int .i64 0, .bool false, .bool false, .string ⟨#[]⟩, .string ⟨#[]⟩], .bool false, .int .i64 50]) (by simp [results, Try.results14, go_sem, r0, r1, r2, r3, r4, r5, r6, r7, r8, r9]) rfl ⟨rfl, hl0.trans (below_turn ht5 (Nat.le_succ _) hl0.size)⟩
set_option maxHeartbeats 4000000 in
theorem rtake_tick (p : Pk) (hmay : p.may = true) {w : World} {K base : Nat} {ro pa la : Int} {v : Value} {L : List DP} (h : DX w K base ro pa la v L) (now : Int) (hn : now < la ∨ 1099511627776 < now) :
    Calls Try.prog 14 #[.pointer (some ⟨K, 0, none⟩), .agg #[.int .i64 p.f, .int .i64 p.t, .int .i64 p.tl, .int .i64 p.pr, .int .i64 p.id, .int .i64 p.fr, .bool p.mo, .bool p.dn, .string p.op, .string p.da], .int .i64 now] w fun e w' => e = .returned (.tuple #[.agg #[.int .i64 0, .int .i64 0, .int .i64 0, .int .i64 0, .int .i64 0, .int .i64 0, .bool false, .bool false, .string ⟨#[]⟩, .string ⟨#[]⟩], .bool false, .int .i64 1]) ∧ Below w.heap.size w w' := by
  have hp := may_fine hmay
  have ho : p.op.size ≤ 1125899906842624 := by have := hp.ol; omega
  have hd : p.da.size ≤ 1125899906842624 := by have := hp.dl; omega
  have hPb := (At.box w #[.int .i64 p.f, .int .i64 p.t, .int .i64 p.tl, .int .i64 p.pr, .int .i64 p.id, .int .i64 p.fr, .bool p.mo, .bool p.dn, .string p.op, .string p.da] 32).later (bel1 _ (.cells #[.int .i64 0, .int .i64 0, .int .i64 0, .int .i64 0, .int .i64 0, .int .i64 0, .bool false, .bool false, .string ⟨#[]⟩, .string ⟨#[]⟩] 32))
  have hZb := At.box2 w (.cells #[.int .i64 p.f, .int .i64 p.t, .int .i64 p.tl, .int .i64 p.pr, .int .i64 p.id, .int .i64 p.fr, .bool p.mo, .bool p.dn, .string p.op, .string p.da] 32) #[.int .i64 0, .int .i64 0, .int .i64 0, .int .i64 0, .int .i64 0, .int .i64 0, .bool false, .bool false, .string ⟨#[]⟩, .string ⟨#[]⟩] 32
  have hl0 := bt (bel1 w (.cells #[.int .i64 p.f, .int .i64 p.t, .int .i64 p.tl, .int .i64 p.pr, .int .i64 p.id, .int .i64 p.fr, .bool p.mo, .bool p.dn, .string p.op, .string p.da] 32)) (bel1 _ (.cells #[.int .i64 0, .int .i64 0, .int .i64 0, .int .i64 0, .int .i64 0, .int .i64 0, .bool false, .bool false, .string ⟨#[]⟩, .string ⟨#[]⟩] 32))
  have hK := h.box
  replace hK := hK.later hl0
  clear h
  go_enter Try.func14, Try.ntmps14
  go_upto_region 1 with fail
  generalize (w.alloc (.cells #[.int .i64 p.f, .int .i64 p.t, .int .i64 p.tl, .int .i64 p.pr, .int .i64 p.id, .int .i64 p.fr, .bool p.mo, .bool p.dn, .string p.op, .string p.da] 32)).alloc (.cells #[.int .i64 0, .int .i64 0, .int .i64 0, .int .i64 0, .int .i64 0, .int .i64 0, .bool false, .bool false, .string ⟨#[]⟩, .string ⟨#[]⟩] 32) = W0 at *
  go_wp2_with (first | (refine wpList_load_at rfl 32 _ rfl _ w.heap.size #[.int .i64 p.f, .int .i64 p.t, .int .i64 p.tl, .int .i64 p.pr, .int .i64 p.id, .int .i64 p.fr, .bool p.mo, .bool p.dn, .string p.op, .string p.da] _ rfl hPb Try.underlying32 (by kernel_rfl) ?_) | fail)
  refine (rchk_t (dn := p.dn) hmay _ ho hd).mono ?_
  rintro e w1 ⟨rfl, l1⟩
  replace hZb := hZb.later l1
  replace hl0 := bt hl0 l1
  replace hK := hK.later l1
  clear hPb l1
  go_wp2_with fail
  refine (rtime_f K ro pa la now v w1 hK hn).mono ?_
  rintro e w2 ⟨rfl, rfl⟩
  clear hK
  go_wp2_with (first
    | (refine wpList_store_at rfl 32 _ _ rfl _ (w.heap.size + 1) #[.int .i64 0, .int .i64 0, .int .i64 0, .int .i64 0, .int .i64 0, .int .i64 0, .bool false, .bool false, .string ⟨#[]⟩, .string ⟨#[]⟩] #[.int .i64 0, .int .i64 0, .int .i64 0, .int .i64 0, .int .i64 0, .int .i64 0, .bool false, .bool false, .string ⟨#[]⟩, .string ⟨#[]⟩] rfl rfl hZb rfl (by kernel_rfl) oneZ ?_; intro w5 hZ5 ht5))
  have r0 := (hZ5.2 0 _ rfl).1
  have r1 := (hZ5.2 1 _ rfl).1
  have r2 := (hZ5.2 2 _ rfl).1
  have r3 := (hZ5.2 3 _ rfl).1
  have r4 := (hZ5.2 4 _ rfl).1
  have r5 := (hZ5.2 5 _ rfl).1
  have r6 := (hZ5.2 6 _ rfl).1
  have r7 := (hZ5.2 7 _ rfl).1
  have r8 := (hZ5.2 8 _ rfl).1
  have r9 := (hZ5.2 9 _ rfl).1
  exact bodyPost_ret (v := .tuple #[.agg #[.int .i64 0, .int .i64 0, .int .i64 0, .int .i64 0, .int .i64 0, .int .i64 0, .bool false, .bool false, .string ⟨#[]⟩, .string ⟨#[]⟩], .bool false, .int .i64 1]) (by simp [results, Try.results14, go_sem, r0, r1, r2, r3, r4, r5, r6, r7, r8, r9]) rfl ⟨rfl, hl0.trans (below_turn ht5 (Nat.le_succ _) hl0.size)⟩
def TK0 (w w' : World) (K base : Nat) (ro pa now : Int) (v : Value) (L : List DP) : Prop := DX w' K base ro pa now v L ∧ Turn (fun k => k = K) w w'
theorem DX.turn {S : Nat → Prop} {w w' : World} {K base : Nat} {ro pa la : Int} {v : Value} {L : List DP} (h : DX w K base ro pa la v L) (ht : Turn S w w') (hS : ∀ k, k < w.heap.size → ¬ S k) : DX w' K base ro pa la v L := by
  have hK := h.box
  have hT := h.list
  have hkb := h.kb
  have hbw := h.bw
  refine ⟨hK.turn ht (hS K (by omega)), hT.turn ht (fun k hk hk2 e => hS k (by first | exact hk2 | omega) e), fun x hx => (h.ok x hx).turn ht (fun k hk e => hS k ((h.ok x hx).lt k hk) e), h.kb, ?_⟩
  have := ht.size
  omega
set_option maxHeartbeats 4000000 in
theorem rtake_whole (p : Pk) (hmay : p.may = true) {w : World} {K base : Nat} {ro pa la : Int} {v : Value} {L : List DP} (h : DX w K base ro pa la v L) (now : Int) (hn1 : la ≤ now) (hn2 : now ≤ 1099511627776) (hwh : wholeB p.fr p.mo = true) :
    Calls Try.prog 14 #[.pointer (some ⟨K, 0, none⟩), .agg #[.int .i64 p.f, .int .i64 p.t, .int .i64 p.tl, .int .i64 p.pr, .int .i64 p.id, .int .i64 p.fr, .bool p.mo, .bool p.dn, .string p.op, .string p.da], .int .i64 now] w fun e w' => e = .returned (.tuple #[.agg #[.int .i64 p.f, .int .i64 p.t, .int .i64 p.tl, .int .i64 p.pr, .int .i64 p.id, .int .i64 p.fr, .bool p.mo, .bool p.dn, .string p.op, .string p.da], .bool true, .int .i64 0]) ∧ TK0 w w' K base ro pa now v L := by
  have hp := may_fine hmay
  have ho : p.op.size ≤ 1125899906842624 := by have := hp.ol; omega
  have hd : p.da.size ≤ 1125899906842624 := by have := hp.dl; omega
  have hPb := (At.box w #[.int .i64 p.f, .int .i64 p.t, .int .i64 p.tl, .int .i64 p.pr, .int .i64 p.id, .int .i64 p.fr, .bool p.mo, .bool p.dn, .string p.op, .string p.da] 32).later (bel1 _ (.cells #[.int .i64 0, .int .i64 0, .int .i64 0, .int .i64 0, .int .i64 0, .int .i64 0, .bool false, .bool false, .string ⟨#[]⟩, .string ⟨#[]⟩] 32))
  have hZb := At.box2 w (.cells #[.int .i64 p.f, .int .i64 p.t, .int .i64 p.tl, .int .i64 p.pr, .int .i64 p.id, .int .i64 p.fr, .bool p.mo, .bool p.dn, .string p.op, .string p.da] 32) #[.int .i64 0, .int .i64 0, .int .i64 0, .int .i64 0, .int .i64 0, .int .i64 0, .bool false, .bool false, .string ⟨#[]⟩, .string ⟨#[]⟩] 32
  have hl0 := bt (bel1 w (.cells #[.int .i64 p.f, .int .i64 p.t, .int .i64 p.tl, .int .i64 p.pr, .int .i64 p.id, .int .i64 p.fr, .bool p.mo, .bool p.dn, .string p.op, .string p.da] 32)) (bel1 _ (.cells #[.int .i64 0, .int .i64 0, .int .i64 0, .int .i64 0, .int .i64 0, .int .i64 0, .bool false, .bool false, .string ⟨#[]⟩, .string ⟨#[]⟩] 32))
  have hK := h.box
  have hT := h.list
  have hbw := h.bw
  have hkb := h.kb
  have HOK : Hid (DR w base v (L.map DP.e) ∧ ∀ x ∈ L, RW w base x.v x.ps) := ⟨hT, h.ok⟩
  replace hK := hK.later hl0
  clear h hT
  go_enter Try.func14, Try.ntmps14
  go_upto_region 1 with fail
  generalize (w.alloc (.cells #[.int .i64 p.f, .int .i64 p.t, .int .i64 p.tl, .int .i64 p.pr, .int .i64 p.id, .int .i64 p.fr, .bool p.mo, .bool p.dn, .string p.op, .string p.da] 32)).alloc (.cells #[.int .i64 0, .int .i64 0, .int .i64 0, .int .i64 0, .int .i64 0, .int .i64 0, .bool false, .bool false, .string ⟨#[]⟩, .string ⟨#[]⟩] 32) = W0 at *
  go_wp2_with (first | (refine wpList_load_at rfl 32 _ rfl _ w.heap.size #[.int .i64 p.f, .int .i64 p.t, .int .i64 p.tl, .int .i64 p.pr, .int .i64 p.id, .int .i64 p.fr, .bool p.mo, .bool p.dn, .string p.op, .string p.da] _ rfl hPb Try.underlying32 (by kernel_rfl) ?_) | fail)
  refine (rchk_t (dn := p.dn) hmay _ ho hd).mono ?_
  rintro e w1 ⟨rfl, l1⟩
  replace hZb := hZb.later l1
  replace hl0 := bt hl0 l1
  replace hK := hK.later l1
  replace hPb := hPb.later l1
  clear l1
  go_wp2_with fail
  refine (rtime_t K ro pa la now v w1 hK hn1 hn2).mono ?_
  rintro e w2 ⟨rfl, hK2, ht2⟩
  have hs0 := hl0.size
  have hP2 := hPb.turn ht2 (fun e => by omega)
  have hZ2 := hZb.turn ht2 (fun e => by omega)
  have HT2 : Hid (Turn (fun k => k = K) w w2) := ((Turn.of_below (S := fun k => k = K) hl0)).trans ht2
  have hs2 : w.heap.size + 1 < w2.heap.size := hZ2.1
  clear hPb hZb hK ht2 hl0
  go_wp2_with (first | (refine wpList_load_at rfl 32 _ rfl _ w.heap.size #[.int .i64 p.f, .int .i64 p.t, .int .i64 p.tl, .int .i64 p.pr, .int .i64 p.id, .int .i64 p.fr, .bool p.mo, .bool p.dn, .string p.op, .string p.da] _ rfl hP2 Try.underlying32 (by kernel_rfl) ?_) | fail)
  refine (rwhl_any p.f p.t p.tl p.pr p.id p.fr p.mo p.dn p.op p.da w2).mono ?_
  rw [hwh]
  rintro e w3 ⟨rfl, l3⟩
  have hP3 := hP2.later l3
  have hZ3 := hZ2.later l3
  have HT3 : Hid (Turn (fun k => k = K) w w3 ∧ At w3 K #[.int .i64 ro, .int .i64 pa, .int .i64 now, v]) := ⟨HT2.out.later l3, hK2.later l3⟩
  clear l3 hP2 hZ2 HT2 hK2
  have hone := oneQ p
  go_wp2_with (first
    | (refine wpList_load_at rfl 32 _ rfl _ w.heap.size #[.int .i64 p.f, .int .i64 p.t, .int .i64 p.tl, .int .i64 p.pr, .int .i64 p.id, .int .i64 p.fr, .bool p.mo, .bool p.dn, .string p.op, .string p.da] _ rfl hP3 Try.underlying32 (by kernel_rfl) ?_)
    | (refine wpList_store_at rfl 32 _ _ rfl _ (w.heap.size + 1) #[.int .i64 0, .int .i64 0, .int .i64 0, .int .i64 0, .int .i64 0, .int .i64 0, .bool false, .bool false, .string ⟨#[]⟩, .string ⟨#[]⟩] #[.int .i64 p.f, .int .i64 p.t, .int .i64 p.tl, .int .i64 p.pr, .int .i64 p.id, .int .i64 p.fr, .bool p.mo, .bool p.dn, .string p.op, .string p.da] rfl rfl hZ3 rfl (by kernel_rfl) hone ?_; intro w5 hZ5 ht5))
  have r0 := (hZ5.2 0 _ rfl).1
  have r1 := (hZ5.2 1 _ rfl).1
  have r2 := (hZ5.2 2 _ rfl).1
  have r3 := (hZ5.2 3 _ rfl).1
  have r4 := (hZ5.2 4 _ rfl).1
  have r5 := (hZ5.2 5 _ rfl).1
  have r6 := (hZ5.2 6 _ rfl).1
  have r7 := (hZ5.2 7 _ rfl).1
  have r8 := (hZ5.2 8 _ rfl).1
  have r9 := (hZ5.2 9 _ rfl).1
  have HE : TK0 w w5 K base ro pa now v L := by
    have h5 : Turn (fun k => k = K) w w5 := HT3.out.1.step ht5 (fun k hk => by omega)
    have hs5 := h5.size
    refine ⟨⟨HT3.out.2.turn ht5 (by omega), HOK.out.1.turn h5 (fun k hk _ e => by omega), fun x hx => (HOK.out.2 x hx).turn h5 (fun k hk e => by have := (HOK.out.2 x hx).ge k hk; omega), hkb, by omega⟩, h5⟩
  exact bodyPost_ret (v := .tuple #[.agg #[.int .i64 p.f, .int .i64 p.t, .int .i64 p.tl, .int .i64 p.pr, .int .i64 p.id, .int .i64 p.fr, .bool p.mo, .bool p.dn, .string p.op, .string p.da], .bool true, .int .i64 0]) (by simp [results, Try.results14, go_sem, r0, r1, r2, r3, r4, r5, r6, r7, r8, r9]) rfl ⟨rfl, HE⟩
end Go.Proofs.Ytcjhniehbafhpaa
