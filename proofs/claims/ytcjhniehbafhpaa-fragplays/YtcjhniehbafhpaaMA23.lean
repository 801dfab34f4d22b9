/- the texts Kc, in part, merged by program -/
import Derived.Test.YtcjhniehbafhpaaProg
import Derived.Test.YtcjhniehbafhpaaRows
import Derived.Deep.QuietTactic
import Derived.BigQuiet
import Derived.WalkKit
import Derived.WalkSpells
import Derived.Laws.OwnMore
import Derived.Deep.RegionWith
import Derived.Maps.RangeWalk
import Derived.Maps.OwnSet
import Derived.Maps.Ext
import Derived.Maps.Keyed
import Derived.DeepKeys4
import Derived.WalkSmall
import Derived.Deep.Cut
import Derived.Deep.CutRange
import Derived.Deep.MidRow
import Derived.OwnWalk
import Derived.Laws.CopyRow
import Derived.OrdersHeld
import Derived.Shelf.Spec.SlicesInsert
import Derived.Lib.AppendZerosOnto
import Derived.Maps.AppendAt
import Derived.Lib.Overlaps
import Derived.Shelf.Strings.BuilderK
import Derived.ProofKit
import Derived.OpenShut
import Derived.ShutString
import Derived.ChangeOld
import Derived.Below
import Derived.Carry
import Derived.SizedLaws
import Derived.ChangeSlices
import Derived.Deep.Slices
import Derived.Laws.AppendOwn
import Derived.Laws.AppendOwnNone
import Derived.Shelf.SlSortCmp.WholeK
import Derived.Great.BuildSlice
import Derived.Shelf.SlSortCmp.NoneTotal
import Derived.Deep.RegionHeld3
import Derived.LoopN
import Derived.Test.YtcjhniehbafhpaaMA01
import Derived.Test.YtcjhniehbafhpaaMA02
import Derived.Test.YtcjhniehbafhpaaMA03
import Derived.Test.YtcjhniehbafhpaaMA04
import Derived.Test.YtcjhniehbafhpaaMA05
import Derived.Test.YtcjhniehbafhpaaMA06
import Derived.Test.YtcjhniehbafhpaaMA07
import Derived.Test.YtcjhniehbafhpaaMA08
import Derived.Test.YtcjhniehbafhpaaMA09
import Derived.Test.YtcjhniehbafhpaaMA10
import Derived.Test.YtcjhniehbafhpaaMA11
import Derived.Test.YtcjhniehbafhpaaMA12
import Derived.Test.YtcjhniehbafhpaaMA13
import Derived.Test.YtcjhniehbafhpaaMA15
import Derived.Test.YtcjhniehbafhpaaMA16
import Derived.Test.YtcjhniehbafhpaaMA17
import Derived.Test.YtcjhniehbafhpaaMA18
import Derived.Test.YtcjhniehbafhpaaMA19
import Derived.Test.YtcjhniehbafhpaaMA20
import Derived.Test.YtcjhniehbafhpaaMA21
import Derived.Test.YtcjhniehbafhpaaMA22
namespace Go.Proofs.Ytcjhniehbafhpaa
open Go.RowKit Go.Maps
set_option maxRecDepth 100000
set_option linter.unusedVariables false
set_option linter.unusedSimpArgs false

theorem wpList_store_new {ops : Array Oper} {rest : List Oper} {op : Oper} {a : Act} {Q : Exit → Act → World → Prop} (hgd : op.guard = none) (ty : TypeId) (x y : Operand) (ho : op.op = .store ty x y) (w : World) (z cells : Array Value) (t : TypeId) (hx : a.eval x = .pointer (some ⟨w.heap.size, 0, none⟩)) (hy : a.eval y = .agg cells) (hzs : z.size = cells.size) (hi : (Try.prog.info? ty).map (·.size) = some cells.size) (h1 : cells.all (·.oneCell') = true)
  (h : ∀ w', At w' w.heap.size cells → Below w.heap.size w w' → wpList Try.prog ops Q rest (a.put op.dst undef) w') : wpList Try.prog ops Q (op :: rest) a (w.alloc (.cells z t)) := by
 have hB := At.box w z t
 refine wpList_store_mid hgd ty x y ho w.heap.size 0 cells hx hy (by rw [← hzs]; exact at_there hB) hi h1 ?_
 exact h _ (at_whole hB hzs) ((bel1 w (.cells z t)).trans ((turn_setCells w.heap.size cells.toList 0 (w.alloc (.cells z t))).below (bel1 w _).size (fun k hk e => by omega)))
def BothT (n0 : Nat) (w : World) (R B M K : Nat) (ro pa la tu now : Int) (Z : List Cb) : Prop :=
 ∃ (lt : List Pk) (code : Int) (Mid : World → Prop), lt.length ≤ 64 ∧ Calls Try.prog 11 #[.pointer (some ⟨B, 0, none⟩), .int .i64 now] w (fun e w' => ∃ v, e = .returned (.tuple #[v, .int .i64 code]) ∧ RW w' w.heap.size v lt ∧ Mid w' ∧ Below n0 w w' ∧ KeepAt w w' B M Z) ∧
  ∀ w1 w2, Mid w1 → n0 ≤ w1.heap.size → Below w1.heap.size w1 w2 → Calls Try.prog 12 #[.pointer (some ⟨K, 0, none⟩), .int .i64 now] w2 (fun e w' => ∃ v, e = .returned (.tuple #[v, .int .i64 code]) ∧ RW w' w2.heap.size v lt ∧ (∃ la2 tu2 Z2 v2, PL w' R B M K ro pa la2 tu2 Z2 v2 ∧ tu2 ≤ tu + 1) ∧ Turn (fun k => k = K) w2 w')
def oldC (now pa : Int) (z : Cb) : Bool := decide (z.at_ + pa ≤ now)
theorem fm_congr {α β : Type} {l : List α} {f g : α → Option β} (h : ∀ x ∈ l, f x = g x) : l.filterMap f = l.filterMap g := by
 induction l with
 | nil => rfl
 | cons a r ih => rw [List.filterMap_cons, List.filterMap_cons, h a (by simp), ih (fun x hx => h x (by simp [hx]))]
theorem late_same {Z : List Cb} (h : ∀ z ∈ Z, z.Ok) : lateL (Z.map Cb.p) = dlate (Z.map Cb.d) := by
 unfold lateL dlate
 rw [List.filterMap_map, List.filterMap_map]
 refine fm_congr (fun z hz => ?_)
 have hs := (h z hz).same
 obtain ⟨q, r, hqr⟩ := List.exists_cons_of_ne_nil hs.ne
 have hf := hs.first (q := q) (by rw [hqr]; rfl)
 show (match z.ps with | q :: _ => if q.fr = 0 then some q else none | [] => none) = firstL z.dps
 rw [hqr, hf]
set_option maxHeartbeats 4000000 in
theorem bothT_all {n0 : Nat} {w : World} {R B M K : Nat} {ro pa la tu : Int} {Z : List Cb} {v : Value} (h : PL w R B M K ro pa la tu Z v) (hn : n0 ≤ w.heap.size) (hB : n0 ≤ B) (hM : n0 ≤ M) (hro : ro ≤ 64) (hp0 : 1 ≤ pa) (hp1 : pa ≤ 1048576) (htu : tu ≤ 1000000) (now : Int) : BothT n0 w R B M K ro pa la tu now Z := by
 have hlen := h.len
 have hla0 := h.la0
 have hla1 := h.la1
 by_cases hnow : now < la ∨ 1099511627776 < now
 ·
  refine ⟨[], 1, fun w1 => PL w1 R B M K ro pa la tu Z v, by simp, (tick_f h.bx now hnow).mono fun e w' ⟨he, hw⟩ => ?_, fun w1 w2 hm hs hb => ?_⟩
  ·
   subst hw
   exact ⟨_, he, RW.nil _ _, h, Below.refl _ _, fun b vs hb _ _ _ => hb⟩
  ·
   have h2 := hm.later hb
   refine (rgo_f h2.dx now hnow).mono fun e w' ⟨he, hw⟩ => ?_
   subst hw
   exact ⟨_, he, RW.nil _ _, ⟨la, tu, Z, v, h2, by omega⟩, Turn.refl _⟩
 ·
  have hn1 : la ≤ now := by omega
  have hn2 : now ≤ 1099511627776 := by omega
  have e1 : (Z.map Cb.p).filter (fun x => !old now pa x) = (Z.filter (fun z => !oldC now pa z)).map Cb.p := by
   rw [List.filter_map]
   congr 1
   refine List.filter_congr (fun z _ => ?_)
   show (!old now pa z.p) = !oldC now pa z
   unfold old oldC Cb.p
   congr 1
   exact decide_eq_decide.2 ⟨fun h => by simp only at h ⊢; omega, fun h => by simp only at h ⊢; omega⟩
  have e2 : (Z.map Cb.p).filter (old now pa) = (Z.filter (oldC now pa)).map Cb.p := by
   rw [List.filter_map]
   congr 1
   refine List.filter_congr (fun z _ => ?_)
   show old now pa z.p = oldC now pa z
   unfold old oldC Cb.p
   exact decide_eq_decide.2 ⟨fun h => by simp only at h ⊢; omega, fun h => by simp only at h ⊢; omega⟩
  have e3 : (Z.map Cb.d).filter (fun x => !dold now pa x) = (Z.filter (fun z => !oldC now pa z)).map Cb.d := by
   rw [List.filter_map]
   rfl
  have e4 : (Z.map Cb.d).filter (dold now pa) = (Z.filter (oldC now pa)).map Cb.d := by
   rw [List.filter_map]
   rfl
  have hsub : ∀ z ∈ Z.filter (fun z => !oldC now pa z), z ∈ Z := fun z hz => (List.mem_filter.1 hz).1
  have hlt := late_same (Z := Z.filter (oldC now pa)) (fun z hz => h.ok z (List.mem_filter.1 hz).1)
  have hll : (lateL ((Z.filter (oldC now pa)).map Cb.p)).length ≤ 64 := by
   have h1 := late_len ((Z.filter (oldC now pa)).map Cb.p)
   rw [List.length_map] at h1
   have h2 := List.length_filter_le (oldC now pa) Z
   omega
  refine ⟨lateL ((Z.filter (oldC now pa)).map Cb.p), 0, fun w1 => BX w1 R B M ro pa now tu ((Z.filter (fun z => !oldC now pa z)).map Cb.p) ∧ Turn (FL B M (Z.map Cb.p)) w w1, hll, ?_, fun w1 w2 hm hs hb => ?_⟩
  ·
   refine (tick_any h.bx now hn1 hn2 hp0 hp1 hla0 (fun x hx => ?_) (fun x hx => ?_) ?_ (fun x hx => ?_) (by rw [List.length_map]; omega)).mono fun e w' hE => ?_
   · obtain ⟨z, hz, rfl⟩ := List.mem_map.1 hx; exact h.ats z hz
   · obtain ⟨z, hz, rfl⟩ := List.mem_map.1 hx; have := h.tus z hz; show 0 ≤ z.tu ∧ z.tu < 1099511627776; omega
   · rw [List.pairwise_map]; exact h.so
   · obtain ⟨z, hz, rfl⟩ := List.mem_map.1 hx; exact (h.ok z hz).same.ne
   ·
    obtain ⟨v1, he, hbx, hrw, ht⟩ := hE
    rw [e1] at hbx
    rw [e2] at hrw
    have ht' : Turn (FL B M (Z.map Cb.p)) w w' := ht.mono (fun k hk => by rcases hk with e | e; exact Or.inl e; exact Or.inr (Or.inl e))
    exact ⟨v1, he, hrw, ⟨hbx, ht'⟩, ht'.below hn (h.fl_below hB hM), h.keepAt ht'⟩
  ·
   obtain ⟨hbx, ht⟩ := hm
   have hdx := (h.keep ht).later hb
   refine (rgo_t hdx now hn1 hn2 hp0 hp1 (fun x hx => ?_) (by rw [List.length_map]; omega) (fun x hx => ?_)).mono fun e w' hE => ?_
   · obtain ⟨z, hz, rfl⟩ := List.mem_map.1 hx; have := h.ats z hz; show 0 ≤ z.at_ ∧ z.at_ ≤ 1099511627776; omega
   ·
    obtain ⟨z, hz, rfl⟩ := List.mem_map.1 hx
    have h1 := (h.ok z hz).same.len
    have h2 := (h.ok z hz).same.perm.length_eq
    show z.dps.length ≤ 1000
    omega
   ·
    obtain ⟨v1, he, ⟨v2, hd2, hv2⟩, hrw, htK⟩ := hE
    rw [e3] at hd2
    rw [e4, ← hlt] at hrw
    refine ⟨v1, he, hrw, ?_, htK⟩
    have hT : TKB w2 w' K R ro pa now (Z.map Cb.d) ((Z.filter (fun z => !oldC now pa z)).map Cb.d) := ⟨v2, hd2, hv2, fun y hy => by
     obtain ⟨z, hz, rfl⟩ := List.mem_map.1 hy
     exact Or.inl (List.mem_map_of_mem (hsub z hz)), htK⟩
    obtain ⟨v', hv'⟩ := h.fin hn1 hn2 ht hb hbx (fun z hz k hk => Or.inl ⟨z, hsub z hz, hk⟩) hT (Int.le_refl _) (fun z hz => h.ok z (hsub z hz)) (fun z hz => by have := h.ats z (hsub z hz); omega) (fun z hz => h.tus z (hsub z hz)) (h.so.sublist List.filter_sublist) (by have := List.length_filter_le (fun z => !oldC now pa z) Z; omega)
    exact ⟨now, tu, _, v', hv', by omega⟩
theorem plays_f (ro pa : Int) (a : Option Addr) (n cap : Nat) (w : World) (h : newB ro pa = false) :
  Calls Try.prog 3 #[.int .i64 ro, .int .i64 pa, .slice a n cap] w fun e w' => e = .returned (.bool true) ∧ Below w.heap.size w w' := by
 go_enter Try.func3, Try.ntmps3
 go_wp2_with fail
 refine (new_f ro pa w h).mono ?_
 rintro e w1 ⟨rfl, rfl⟩
 go_wp2_with fail
 refine (rnew_f ro pa w1 h).mono ?_
 rintro e w1 ⟨rfl, rfl⟩
 go_wp2_with fail
 refine (works_any w1).mono ?_
 rintro e w2 ⟨rfl, hb⟩
 go_wp2
 go_loopw [11] (fun i wr => i = .int .i64 0 ∧ Below w1.heap.size w1 wr) (fun _ _ => 0)
 case atStart => exact ⟨rfl, hb⟩
 case round =>
  obtain ⟨rfl, hb⟩ := hrel
  go_wp2
  go_ret
  exact ⟨rfl, hb⟩
set_option maxHeartbeats 16000000 in
theorem plays_t (ro pa : Int) (a : Option Addr) (n cap : Nat) (w : World) (h : newB ro pa = true) (hr : Flat.Rows w a n 12 [.i, .i, .i, .i, .i, .i, .i, .i, .b, .b, .s, .s]) (hz : n < 1000000000000000) :
  Calls Try.prog 3 #[.int .i64 ro, .int .i64 pa, .slice a n cap] w fun e w' => e = .returned (.bool true) ∧ Below w.heap.size w w' := by
 have HA : Hid (Flat.Rows w a n 12 [.i, .i, .i, .i, .i, .i, .i, .i, .b, .b, .s, .s]) := hr
 clear hr
 obtain ⟨⟨o1, o2⟩, o3, o4⟩ := of_decide_eq_true h
 go_enter Try.func3, Try.ntmps3
 go_wp2_with fail
 refine (new_t ro pa w o1 o2 o3 o4).mono ?_
 rintro e w1 ⟨rfl, hBo, hGo, l1⟩
 go_wp2_with fail
 refine (rnew_t ro pa w1 h).mono ?_
 rintro e w2 ⟨rfl, hKo, l2⟩
 have hB1 := hBo.1
 have hBo2 := hBo.later l2
 have hGo2 := hGo.later l2
 have hb2 := bt l1 l2
 have hK1 := hKo.1
 clear hBo hGo l1 l2
 go_wp2_with fail
 refine (works_any w2).mono ?_
 rintro e w3 ⟨rfl, l3⟩
 have hs3 := l3.size
 have hPL : PL w3 w3.heap.size (w.heap.size + 1) w.heap.size w1.heap.size ro pa 0 0 [] (.slice none 0 0) := by
  refine ⟨⟨hBo2.later l3, hGo2.later l3, (fun x hx => by cases hx), List.Pairwise.nil, by omega, by omega, Nat.le_refl _, by omega⟩, ⟨hKo.later l3, Or.inl ⟨rfl, rfl⟩, (fun x hx => by cases hx), by omega, Nat.le_refl _⟩, (fun z hz => by cases hz), (fun z hz => by cases hz), (fun z hz => by cases hz), List.Pairwise.nil, Int.le_refl _, by decide, Int.le_refl _, by simp; omega, (fun x hx => by cases hx), by omega, by omega⟩
 have hb3 := bt hb2 l3
 obtain ⟨R, hR⟩ : ∃ x, x = w3.heap.size := ⟨_, rfl⟩
 obtain ⟨B, hB⟩ : ∃ x, x = w.heap.size + 1 := ⟨_, rfl⟩
 obtain ⟨M, hM⟩ : ∃ x, x = w.heap.size := ⟨_, rfl⟩
 obtain ⟨K, hK⟩ : ∃ x, x = w1.heap.size := ⟨_, rfl⟩
 have hPL : PL w3 R B M K ro pa 0 0 [] (.slice none 0 0) := by rw [hR, hB, hM, hK]; exact hPL
 have hnB : w.heap.size ≤ B := by omega
 have hnM : w.heap.size ≤ M := by omega
 have hnK : w.heap.size ≤ K := by omega
 rw [← hB, ← hK]
 clear hR hB hM hK hBo2 hGo2 hKo l3 hb2 hB1 hK1 hs3 h
 go_upto_region 6 with fail
 go_loopw [11] (fun i wr => ∃ (k : Nat) (la tu : Int) (Z : List Cb) (v : Value), k ≤ n ∧ k ≤ 60 ∧ i = .int .i64 (k : Int) ∧ PL wr R B M K ro pa la tu Z v ∧ tu ≤ (k : Int) ∧ Below w.heap.size w wr) (fun i _ => n - (intOf i).toNat)
 case atStart => exact ⟨0, 0, 0, [], _, Nat.zero_le _, by decide, rfl, hPL, by decide, hb3⟩
 case round =>
  clear hPL hb3
  obtain ⟨k, la, tu, Z, v, hkn, hk60, rfl, hPL, htu, hb⟩ := hrel
  by_cases hlt : k < n ∧ k < 60
  rotate_left
  ·
   by_cases hkk : k < n
   ·
    have hk6 : ¬ (k : Int) < 60 := by omega
    have hk1 : (k : Int) < (n : Int) := by omega
    go_wp2
    go_ret
    exact ⟨rfl, hb⟩
   ·
    have hk1 : ¬ (k : Int) < (n : Int) := by omega
    go_wp2
    go_ret
    exact ⟨rfl, hb⟩
  ·
   obtain ⟨ab, off, rfl, hrow⟩ : ∃ b off, a = some ⟨b, off, none⟩ ∧ ∀ k, k < n → ∃ cs : List Value, Flat.Ok [.i, .i, .i, .i, .i, .i, .i, .i, .b, .b, .s, .s] cs ∧ ∀ j v, cs[j]? = some v → w.cell? ⟨b, off + k * 12 + j, none⟩ = some v := by
    rcases HA.out with h | h
    · omega
    · exact h
   obtain ⟨cs, ⟨hcl, hck⟩, hcc⟩ := hrow k hlt.1
   clear hrow
   match cs, hcl with
   | [v0, v1, v2, v3, v4, v5, v6, v7, v8, v9, v10, v11], _ =>
   obtain ⟨kd, rfl, wkd⟩ := hck 0 _ _ rfl rfl
   obtain ⟨now, rfl, wnow⟩ := hck 1 _ _ rfl rfl
   obtain ⟨pf, rfl, wpf⟩ := hck 2 _ _ rfl rfl
   obtain ⟨pt, rfl, wpt⟩ := hck 3 _ _ rfl rfl
   obtain ⟨ptl, rfl, wptl⟩ := hck 4 _ _ rfl rfl
   obtain ⟨ppr, rfl, wppr⟩ := hck 5 _ _ rfl rfl
   obtain ⟨pid, rfl, wpid⟩ := hck 6 _ _ rfl rfl
   obtain ⟨pfr, rfl, wpfr⟩ := hck 7 _ _ rfl rfl
   obtain ⟨pmo, rfl⟩ := hck 8 _ _ rfl rfl
   obtain ⟨pdn, rfl⟩ := hck 9 _ _ rfl rfl
   obtain ⟨pop, rfl, wpop⟩ := hck 10 _ _ rfl rfl
   obtain ⟨pda, rfl, wpda⟩ := hck 11 _ _ rfl rfl
   obtain ⟨p, hpe⟩ : ∃ p : Pk, p = ⟨pf, pt, ptl, ppr, pid, pfr, pmo, pdn, pop, pda⟩ := ⟨_, rfl⟩
   obtain rfl : pf = p.f := by rw [hpe]
   obtain rfl : pt = p.t := by rw [hpe]
   obtain rfl : ptl = p.tl := by rw [hpe]
   obtain rfl : ppr = p.pr := by rw [hpe]
   obtain rfl : pid = p.id := by rw [hpe]
   obtain rfl : pfr = p.fr := by rw [hpe]
   obtain rfl : pmo = p.mo := by rw [hpe]
   obtain rfl : pdn = p.dn := by rw [hpe]
   obtain rfl : pop = p.op := by rw [hpe]
   obtain rfl : pda = p.da := by rw [hpe]
   have hop : p.op.size ≤ 1125899906842624 := by omega
   have hda : p.da.size ≤ 1125899906842624 := by omega
   have hrng : wr.rangeAt ab (off + k * 12) [.int .i64 kd, .int .i64 now, .int .i64 p.f, .int .i64 p.t, .int .i64 p.tl, .int .i64 p.pr, .int .i64 p.id, .int .i64 p.fr, .bool p.mo, .bool p.dn, .string p.op, .string p.da] := fun j v hv => later hb (hcc j v hv)
   clear hcc hck hpe
   have hk1 : (k : Int) < (n : Int) := by omega
   have hk2 : (k : Int) < 60 := by omega
   have hk3 : (0 : Int) ≤ (k : Int) := by omega
   have hk9 : k < 60 := hlt.2
   have hone : (#[.int .i64 kd, .int .i64 now, .int .i64 p.f, .int .i64 p.t, .int .i64 p.tl, .int .i64 p.pr, .int .i64 p.id, .int .i64 p.fr, .bool p.mo, .bool p.dn, .string p.op, .string p.da] : Array Value).all (·.oneCell') = true := by simp [Value.oneCell']
   go_upto_region 9 with (first
    | (refine wpList_load_mid rfl 34 _ rfl ab (off + k * 12) (by first | rfl | simp) _ _ hrng Try.underlying34 rfl (by kernel_rfl) ?_)
    | (refine wpList_store_new rfl 34 _ _ rfl wr _ #[.int .i64 kd, .int .i64 now, .int .i64 p.f, .int .i64 p.t, .int .i64 p.tl, .int .i64 p.pr, .int .i64 p.id, .int .i64 p.fr, .bool p.mo, .bool p.dn, .string p.op, .string p.da] _ rfl rfl rfl (by kernel_rfl) hone ?_; intro wa hAct qa)
    | go_in)
   have hPa := hPL.later qa
   have hba := bt hb qa
   have hsr : w.heap.size ≤ wr.heap.size := hb.size
   have hzA : ∀ z ∈ Z, z.v.ownBlock ≠ some wr.heap.size := fun z hz e => by have := (hPL.row hz _ e).2; omega
   have hAB : wr.heap.size ≠ B := by have := hPL.bx.bR; have := hPL.bx.rw'; omega
   have hAM : wr.heap.size ≠ M := by have := hPL.bx.mR; have := hPL.bx.rw'; omega
   have hAK : wr.heap.size ≠ K := by have := hPL.dx.kb; have := hPL.bx.rw'; omega
   clear hrng hone hPL hb qa hlt
   generalize wr.heap.size = Ab at *
   have a0 := (hAct.2 0 _ rfl).1
   have a1 := (hAct.2 1 _ rfl).1
   go_wp2_with fail
   refine (among_any kd 2 wa (by decide) (by decide)).mono ?_
   rintro e wb ⟨rfl, rfl⟩
   have hj0 : 0 ≤ kd % 2 := Int.emod_nonneg _ (by decide)
   have hj1 : kd % 2 < 2 := Int.emod_lt_of_pos _ (by decide)
   generalize kd % 2 = j at *
   have hnw : w.heap.size ≤ wb.heap.size := hba.size
   rcases (show j = 1 ∨ j = 0 by omega) with rfl | rfl
   ·
    obtain ⟨lt, code, Mid, hll, hT1, hT2⟩ := bothT_all hPa hnw hnB hnM o2 o3 o4 (by omega) now
    have hAr := hPa.bx.rw'
    have hKr := hPa.dx.kb
    go_wp2_with fail
    refine hT1.mono ?_
    rintro e wc ⟨v1, rfl, hr1, hmid, lc, hkeep⟩
    obtain ⟨p1, c1, rfl⟩ := hr1.shape
    have hbc : Below w.heap.size w wc := hba.trans (lc.mono (Nat.le_refl _))
    have a1c := ((hkeep _ _ hAct hAB hAM hzA).2 1 _ rfl).1
    have hge1 := hr1.ge
    clear hT1 hkeep lc a0 a1 hPa hba hAct
    go_wp2_with fail
    refine (hT2 wc wc hmid hbc.size (Below.refl _ _)).mono ?_
    rintro e wd ⟨v2, rfl, hr2, ⟨la2, tu2, Z2, vv, hP2, htu2⟩, htK⟩
    obtain ⟨p2, c2, rfl⟩ := hr2.shape
    have hr1d := hr1.turn htK (fun k hk e => by have := hge1 k hk; omega)
    have hbd : Below w.heap.size w wd := hbc.trans (htK.below hbc.size (fun k hk e => by omega))
    have hcc : (code != code) = false := by simp
    have HR : Hid (RW wd wb.heap.size (.slice p1 lt.length c1) lt ∧ RW wd wc.heap.size (.slice p2 lt.length c2) lt) := ⟨hr1d, hr2⟩
    have hli : (lt.length : Int) ≤ 64 := by omega
    clear hT2 hmid hr1 hr1d hr2 htK hbc a1c hge1
    go_upto_region 14 with fail
    go_wp2_with fail
    go_loopw [17] (fun j wx => ∃ m : Nat, m ≤ lt.length ∧ j = .int .i64 (m : Int) ∧ Below wd.heap.size wd wx) (fun j _ => lt.length - (intOf j).toNat)
    case atStart => exact ⟨0, Nat.zero_le _, rfl, Below.refl _ _⟩
    case round =>
     obtain ⟨m, hm, rfl, hbm⟩ := hrel
     by_cases hml : m < lt.length
     ·
      obtain ⟨q, hq⟩ : ∃ q, lt[m]? = some q := ⟨lt[m], List.getElem?_eq_getElem hml⟩
      have hne : lt ≠ [] := fun e => by rw [e] at hml; simp at hml
      obtain ⟨g1, c1', cur1, hv1, -⟩ := HR.out.1.real hne
      injection hv1 with e1 e2 e3
      subst e1 e3
      obtain ⟨g2, c2', cur2, hv2, -⟩ := HR.out.2.real hne
      injection hv2 with e4 e5 e6
      subst e4 e6
      clear e2 e5
      have hx := (HR.out.1.later hbm).cells hq
      have hy := (HR.out.2.later hbm).cells hq
      have hx0 : ∀ wx, Below wr.heap.size wr wx → wx.cell? ⟨g1, m * 10, none⟩ = some (.int .i64 q.f) := fun wx h => later h (hx 0 _ rfl)
      have hx1 := fun wx (h : Below wr.heap.size wr wx) => later h (hx 1 _ rfl)
      have hx2 := fun wx (h : Below wr.heap.size wr wx) => later h (hx 2 _ rfl)
      have hx3 := fun wx (h : Below wr.heap.size wr wx) => later h (hx 3 _ rfl)
      have hx4 := fun wx (h : Below wr.heap.size wr wx) => later h (hx 4 _ rfl)
      have hx5 := fun wx (h : Below wr.heap.size wr wx) => later h (hx 5 _ rfl)
      have hx6 := fun wx (h : Below wr.heap.size wr wx) => later h (hx 6 _ rfl)
      have hx7 := fun wx (h : Below wr.heap.size wr wx) => later h (hx 7 _ rfl)
      have hx8 := fun wx (h : Below wr.heap.size wr wx) => later h (hx 8 _ rfl)
      have hx9 := fun wx (h : Below wr.heap.size wr wx) => later h (hx 9 _ rfl)
      have hy0 : ∀ wx, Below wr.heap.size wr wx → wx.cell? ⟨g2, m * 10, none⟩ = some (.int .i64 q.f) := fun wx h => later h (hy 0 _ rfl)
      have hy1 := fun wx (h : Below wr.heap.size wr wx) => later h (hy 1 _ rfl)
      have hy2 := fun wx (h : Below wr.heap.size wr wx) => later h (hy 2 _ rfl)
      have hy3 := fun wx (h : Below wr.heap.size wr wx) => later h (hy 3 _ rfl)
      have hy4 := fun wx (h : Below wr.heap.size wr wx) => later h (hy 4 _ rfl)
      have hy5 := fun wx (h : Below wr.heap.size wr wx) => later h (hy 5 _ rfl)
      have hy6 := fun wx (h : Below wr.heap.size wr wx) => later h (hy 6 _ rfl)
      have hy7 := fun wx (h : Below wr.heap.size wr wx) => later h (hy 7 _ rfl)
      have hy8 := fun wx (h : Below wr.heap.size wr wx) => later h (hy 8 _ rfl)
      have hy9 := fun wx (h : Below wr.heap.size wr wx) => later h (hy 9 _ rfl)
      have hm1 : (m : Int) < (lt.length : Int) := by omega
      have hm3 : (0 : Int) ≤ (m : Int) := by omega
      clear hx hy hq hne
      go_upto_region 17 with fail
      refine wp_region_held_drew (S := (fun W => Below wr.heap.size wr W)) (by kernel_rfl) ?_ (fun hHeld => ?_)
      · first | exact (Below.refl _ _).drew | assumption
      refine tk (i := 0) (oi := ⟨some 104, .move (.tmp 13), 36, "law.go:33", #[], none⟩) (v := .slice (some ⟨g1, 0, none⟩) lt.length c1) rfl (by kernel_rfl) (fun _ _ _ h => h) (Or.inl ⟨by rfl, ?_⟩) (by assumption) ?_
      ·
       intro wx hSw
       go_simp
       try with_reducible rfl
      try simp only [Act.put, La1, La2, La3]
      refine tk (i := 1) (oi := ⟨some 105, .move (.tmp 17), 3, "law.go:33", #[], none⟩) (v := .int .i64 (m : Int)) rfl (by kernel_rfl) (fun _ _ _ h => h) (Or.inl ⟨by rfl, ?_⟩) (by assumption) ?_
      ·
       intro wx hSw
       go_simp
       try with_reducible rfl
      try simp only [Act.put, La1, La2, La3]
      refine tk (i := 2) (oi := ⟨some 106, .indexAddr 36 (.tmp 104) (.tmp 105), 0, "law.go:33", #[⟨0, .data⟩, ⟨1, .data⟩], none⟩) (v := .pointer (some ⟨g1, m * 10, none⟩)) rfl (by kernel_rfl) (fun _ _ _ h => h) (Or.inl ⟨by rfl, ?_⟩) (by assumption) ?_
      ·
       intro wx hSw
       go_simp
       try with_reducible rfl
      try simp only [Act.put, La1, La2, La3]
      refine tk (i := 3) (oi := ⟨some 107, .load 32 (.tmp 106), 32, "law.go:33", #[⟨2, .data⟩], none⟩) (v := .agg #[.int .i64 q.f, .int .i64 q.t, .int .i64 q.tl, .int .i64 q.pr, .int .i64 q.id, .int .i64 q.fr, .bool q.mo, .bool q.dn, .string q.op, .string q.da]) rfl (by kernel_rfl) (fun _ _ _ h => h) (Or.inl ⟨by rfl, ?_⟩) (by assumption) ?_
      ·
       intro wx hSw
       try dsimp only at hSw
       have u10 := hx0 wx hSw
       have u11 := hx1 wx hSw
       have u12 := hx2 wx hSw
       have u13 := hx3 wx hSw
       have u14 := hx4 wx hSw
       have u15 := hx5 wx hSw
       have u16 := hx6 wx hSw
       have u17 := hx7 wx hSw
       have u18 := hx8 wx hSw
       have u19 := hx9 wx hSw
       have u20 := hy0 wx hSw
       have u21 := hy1 wx hSw
       have u22 := hy2 wx hSw
       have u23 := hy3 wx hSw
       have u24 := hy4 wx hSw
       have u25 := hy5 wx hSw
       have u26 := hy6 wx hSw
       have u27 := hy7 wx hSw
       have u28 := hy8 wx hSw
       have u29 := hy9 wx hSw
       go_simp
       try with_reducible rfl
      try simp only [Act.put, La1, La2, La3]
      refine tk (i := 4) (oi := ⟨some 108, .move (.tmp 15), 36, "law.go:33", #[], none⟩) (v := .slice (some ⟨g2, 0, none⟩) lt.length c2) rfl (by kernel_rfl) (fun _ _ _ h => h) (Or.inl ⟨by rfl, ?_⟩) (by assumption) ?_
      ·
       intro wx hSw
       go_simp
       try with_reducible rfl
      try simp only [Act.put, La1, La2, La3]
      refine tk (i := 5) (oi := ⟨some 109, .move (.tmp 17), 3, "law.go:33", #[], none⟩) (v := .int .i64 (m : Int)) rfl (by kernel_rfl) (fun _ _ _ h => h) (Or.inl ⟨by rfl, ?_⟩) (by assumption) ?_
      ·
       intro wx hSw
       go_simp
       try with_reducible rfl
      try simp only [Act.put, La1, La2, La3]
      refine tk (i := 6) (oi := ⟨some 110, .indexAddr 36 (.tmp 108) (.tmp 109), 0, "law.go:33", #[⟨4, .data⟩, ⟨5, .data⟩], none⟩) (v := .pointer (some ⟨g2, m * 10, none⟩)) rfl (by kernel_rfl) (fun _ _ _ h => h) (Or.inl ⟨by rfl, ?_⟩) (by assumption) ?_
      ·
       intro wx hSw
       go_simp
       try with_reducible rfl
      try simp only [Act.put, La1, La2, La3]
      refine tk (i := 7) (oi := ⟨some 111, .load 32 (.tmp 110), 32, "law.go:33", #[⟨6, .data⟩], none⟩) (v := .agg #[.int .i64 q.f, .int .i64 q.t, .int .i64 q.tl, .int .i64 q.pr, .int .i64 q.id, .int .i64 q.fr, .bool q.mo, .bool q.dn, .string q.op, .string q.da]) rfl (by kernel_rfl) (fun _ _ _ h => h) (Or.inl ⟨by rfl, ?_⟩) (by assumption) ?_
      ·
       intro wx hSw
       try dsimp only at hSw
       have u10 := hx0 wx hSw
       have u11 := hx1 wx hSw
       have u12 := hx2 wx hSw
       have u13 := hx3 wx hSw
       have u14 := hx4 wx hSw
       have u15 := hx5 wx hSw
       have u16 := hx6 wx hSw
       have u17 := hx7 wx hSw
       have u18 := hx8 wx hSw
       have u19 := hx9 wx hSw
       have u20 := hy0 wx hSw
       have u21 := hy1 wx hSw
       have u22 := hy2 wx hSw
       have u23 := hy3 wx hSw
       have u24 := hy4 wx hSw
       have u25 := hy5 wx hSw
       have u26 := hy6 wx hSw
       have u27 := hy7 wx hSw
       have u28 := hy8 wx hSw
       have u29 := hy9 wx hSw
       go_simp
       try with_reducible rfl
      try simp only [Act.put, La1, La2, La3]
      refine tk (i := 8) (oi := ⟨some 112, .binOp .neq 32 (.tmp 107) (.tmp 111) 32, 4, "law.go:33", #[⟨3, .data⟩, ⟨7, .data⟩], none⟩) (v := .bool false) rfl (by kernel_rfl) (fun _ _ _ h => h) (Or.inl ⟨by rfl, ?_⟩) (by assumption) ?_
      ·
       intro wx hSw
       go_simp
       try with_reducible rfl
      try simp only [Act.put, La1, La2, La3]
      refine wpAnyH_done (by kernel_rfl) ?_ _
      have hbz := bt hbm hHeld
      clear hHeld hx0 hy0 hx1 hy1 hx2 hy2 hx3 hy3 hx4 hy4 hx5 hy5 hx6 hy6 hx7 hy7 hx8 hy8 hx9 hy9
      go_wp2
      go_roundw
      case rel => exact ⟨m + 1, by omega, by simp, hbz⟩
      case measure => simp [intOf]; omega
     ·
      have hm1 : ¬ (m : Int) < (lt.length : Int) := by omega
      have hP3 := hP2.later hbm
      have hb3 := bt hbd hbm
      go_wp2
      go_roundw
      case rel => exact ⟨k + 1, la2, tu2, Z2, vv, by omega, by omega, by simp, hP3, by omega, hb3⟩
      case measure => simp [intOf]; omega
   ·
    have hrp : wb.rangeAt Ab 2 [.int .i64 p.f, .int .i64 p.t, .int .i64 p.tl, .int .i64 p.pr, .int .i64 p.id, .int .i64 p.fr, .bool p.mo, .bool p.dn, .string p.op, .string p.da] := fun j u hu => (hAct.2 (2 + j) u (by
     match j, hu with
     | 0, hu => simpa using hu
     | 1, hu => simpa using hu
     | 2, hu => simpa using hu
     | 3, hu => simpa using hu
     | 4, hu => simpa using hu
     | 5, hu => simpa using hu
     | 6, hu => simpa using hu
     | 7, hu => simpa using hu
     | 8, hu => simpa using hu
     | 9, hu => simpa using hu)).1
    have a11 := (hAct.2 11 _ rfl).1
    by_cases h4 : (4000 : Int) < (p.da.size : Int)
    ·
     clear hrp
     go_wp2
     go_roundw
     case rel => exact ⟨k + 1, la, tu, Z, v, by omega, by omega, by simp, hPa, by omega, hba⟩
     case measure => simp [intOf]; omega
    ·
     obtain ⟨q, ok, code, Mid, hT1, hT2⟩ := both_all hPa hnw hnB hnM hnK o2 (by omega) p now hop hda
     have hAr := hPa.bx.rw'
     have hKr := hPa.dx.kb
     have hoq := oneQ q
     go_upto_region 20 with fail
     go_wp2_with (first
      | (refine wpList_load_mid rfl 32 _ rfl Ab 2 rfl _ _ hrp Try.underlying32 rfl (by kernel_rfl) ?_)
      | fail)
     refine hT1.mono ?_
     rintro e wc ⟨rfl, hmid, lc, hkeep⟩
     have hbc : Below w.heap.size w wc := hba.trans lc
     have hcb : wb.heap.size ≤ wc.heap.size := lc.size
     have hAc := hkeep _ _ hAct hAB hAM hzA
     clear hT1 hkeep lc a0 a1 a11 hPa hba hAct hrp h4
     go_upto_region 21 with (first
      | (refine wpList_store_new rfl 32 _ _ rfl wc _ #[.int .i64 q.f, .int .i64 q.t, .int .i64 q.tl, .int .i64 q.pr, .int .i64 q.id, .int .i64 q.fr, .bool q.mo, .bool q.dn, .string q.op, .string q.da] _ rfl rfl rfl (by kernel_rfl) hoq ?_; intro wd hQ1 qd)
      | go_in)
     have hAd := hAc.later qd
     have a1 := (hAd.2 1 _ rfl).1
     have hrp : wd.rangeAt Ab 2 [.int .i64 p.f, .int .i64 p.t, .int .i64 p.tl, .int .i64 p.pr, .int .i64 p.id, .int .i64 p.fr, .bool p.mo, .bool p.dn, .string p.op, .string p.da] := fun j u hu => (hAd.2 (2 + j) u (by
      match j, hu with
      | 0, hu => simpa using hu
      | 1, hu => simpa using hu
      | 2, hu => simpa using hu
      | 3, hu => simpa using hu
      | 4, hu => simpa using hu
      | 5, hu => simpa using hu
      | 6, hu => simpa using hu
      | 7, hu => simpa using hu
      | 8, hu => simpa using hu
      | 9, hu => simpa using hu)).1
     have hbd := bt hbc qd
     go_wp2_with (first
      | (refine wpList_load_mid rfl 32 _ rfl Ab 2 rfl _ _ hrp Try.underlying32 rfl (by kernel_rfl) ?_)
      | fail)
     refine (hT2 wc wd hmid hbc.size qd).mono ?_
     rintro e we ⟨rfl, ⟨la2, tu2, Z2, vv, hP2, htu2⟩, htK⟩
     have hs1 := hQ1.1
     have hs2 := hbc.size
     have hKl : K < wb.heap.size := by omega
     have hQ1e := hQ1.turn htK (by omega)
     have hbe : Below w.heap.size w we := hbd.trans (htK.below hbd.size (fun k hk e => by omega))
     clear hT2 hmid hAc hAd a1 hrp hQ1 htK hbd hbc qd
     go_upto_region 22 with (first
      | (refine wpList_store_new rfl 32 _ _ rfl we _ #[.int .i64 q.f, .int .i64 q.t, .int .i64 q.tl, .int .i64 q.pr, .int .i64 q.id, .int .i64 q.fr, .bool q.mo, .bool q.dn, .string q.op, .string q.da] _ rfl rfl rfl (by kernel_rfl) hoq ?_; intro wf hQ2 qf)
      | go_in)
     have hQ1f := hQ1e.later qf
     have hP3 := hP2.later qf
     have hbf := bt hbe qf
     clear hQ1e hP2 hbe qf
     generalize wc.heap.size = b1 at *
     generalize we.heap.size = b2 at *
     obtain ⟨pp, nn, cc, hvv⟩ := hP3.dx.list.shape
     have hnn : nn = Z2.length := by
      rcases hP3.dx.list with ⟨h1, h2⟩ | ⟨g, off, c, h1, -⟩
      ·
       rw [hvv] at h1
       injection h1 with _ h1
       rw [h1, ← List.length_map (f := Cb.d), ← List.length_map (f := DP.e), h2]
       rfl
      ·
       rw [hvv] at h1
       injection h1 with _ h1
       rw [h1, List.length_map, List.length_map]
     subst hnn
     subst hvv
     have hln := len_any hP3.bx
     rw [List.length_map] at hln
     have hlen := hP3.len
     have hX1 : ∀ W, Below wf.heap.size wf W → At W b1 #[.int .i64 q.f, .int .i64 q.t, .int .i64 q.tl, .int .i64 q.pr, .int .i64 q.id, .int .i64 q.fr, .bool q.mo, .bool q.dn, .string q.op, .string q.da] := fun W hW => hQ1f.later hW
     have hX2 : ∀ W, Below wf.heap.size wf W → At W b2 #[.int .i64 q.f, .int .i64 q.t, .int .i64 q.tl, .int .i64 q.pr, .int .i64 q.id, .int .i64 q.fr, .bool q.mo, .bool q.dn, .string q.op, .string q.da] := fun W hW => hQ2.later hW
     have hX3 : ∀ W, Below wf.heap.size wf W → W.cell? ⟨K, 3, none⟩ = some (.slice pp Z2.length cc) := fun W hW => later hW (hP3.dx.box.2 3 _ rfl).1
     have hlnW : ∀ W, Below wf.heap.size wf W → Calls Try.prog 15 #[.pointer (some ⟨B, 0, none⟩)] W fun e w' => e = .returned (.int .i64 (Z2.length : Int)) ∧ w' = W := fun W hW => by
      have := len_any (hP3.bx.later hW)
      rwa [List.length_map] at this
     clear hQ1f hQ2 hln
     refine wp_region_held_drew (S := (fun W => Below wf.heap.size wf W)) (by kernel_rfl) ?_ (fun hHeld => ?_)
     · first | exact (Below.refl _ _).drew | assumption
     refine tk (i := 0) (oi := ⟨some 138, .load 32 (.tmp 18), 32, "law.go:44", #[], none⟩) (v := .agg #[.int .i64 q.f, .int .i64 q.t, .int .i64 q.tl, .int .i64 q.pr, .int .i64 q.id, .int .i64 q.fr, .bool q.mo, .bool q.dn, .string q.op, .string q.da]) rfl (by kernel_rfl) (fun _ _ _ h => h) (Or.inl ⟨by rfl, ?_⟩) (by assumption) ?_
     ·
      intro wx hSw
      try dsimp only at hSw
      have u3 := hX3 wx hSw
      obtain ⟨⟨u10, u11, u12, u13, u14, u15, u16, u17, u18, u19⟩, -, -⟩ := (hX1 wx hSw).ten
      obtain ⟨⟨u20, u21, u22, u23, u24, u25, u26, u27, u28, u29⟩, -, -⟩ := (hX2 wx hSw).ten
      go_simp
      try with_reducible rfl
     try simp only [Act.put, La1, La2, La3]
     refine tk (i := 1) (oi := ⟨some 139, .load 32 (.tmp 21), 32, "law.go:44", #[], none⟩) (v := .agg #[.int .i64 q.f, .int .i64 q.t, .int .i64 q.tl, .int .i64 q.pr, .int .i64 q.id, .int .i64 q.fr, .bool q.mo, .bool q.dn, .string q.op, .string q.da]) rfl (by kernel_rfl) (fun _ _ _ h => h) (Or.inl ⟨by rfl, ?_⟩) (by assumption) ?_
     ·
      intro wx hSw
      try dsimp only at hSw
      have u3 := hX3 wx hSw
      obtain ⟨⟨u10, u11, u12, u13, u14, u15, u16, u17, u18, u19⟩, -, -⟩ := (hX1 wx hSw).ten
      obtain ⟨⟨u20, u21, u22, u23, u24, u25, u26, u27, u28, u29⟩, -, -⟩ := (hX2 wx hSw).ten
      go_simp
      try with_reducible rfl
     try simp only [Act.put, La1, La2, La3]
     refine tk (i := 2) (oi := ⟨some 140, .binOp .neq 32 (.tmp 138) (.tmp 139) 32, 4, "law.go:44", #[⟨0, .data⟩, ⟨1, .data⟩], none⟩) (v := .bool false) rfl (by kernel_rfl) (fun _ _ _ h => h) (Or.inl ⟨by rfl, ?_⟩) (by assumption) ?_
     ·
      intro wx hSw
      go_simp
      try with_reducible rfl
     try simp only [Act.put, La1, La2, La3]
     refine tk (i := 3) (oi := ⟨some 141, .move (.tmp 140), 4, "law.go:44", #[⟨2, .data⟩], none⟩) (v := .bool false) rfl (by kernel_rfl) (fun _ _ _ h => h) (Or.inl ⟨by rfl, ?_⟩) (by assumption) ?_
     ·
      intro wx hSw
      go_simp
      try with_reducible rfl
     try simp only [Act.put, La1, La2, La3]
     refine tk (i := 4) (oi := ⟨some 142, .move (.tmp 19), 4, "law.go:44", #[⟨3, .guard⟩], some (3, false)⟩) (v := .bool ok) rfl (by kernel_rfl) (fun _ _ _ h => h) (Or.inl ⟨by rfl, ?_⟩) (by assumption) ?_
     ·
      intro wx hSw
      go_simp
      try with_reducible rfl
     try simp only [Act.put, La1, La2, La3]
     refine tk (i := 5) (oi := ⟨some 143, .move (.tmp 22), 4, "law.go:44", #[⟨3, .guard⟩], some (3, false)⟩) (v := .bool ok) rfl (by kernel_rfl) (fun _ _ _ h => h) (Or.inl ⟨by rfl, ?_⟩) (by assumption) ?_
     ·
      intro wx hSw
      go_simp
      try with_reducible rfl
     try simp only [Act.put, La1, La2, La3]
     refine tk (i := 6) (oi := ⟨some 144, .binOp .neq 4 (.tmp 142) (.tmp 143) 4, 4, "law.go:44", #[⟨4, .data⟩, ⟨5, .data⟩, ⟨3, .guard⟩], some (3, false)⟩) (v := .bool false) rfl (by kernel_rfl) (fun _ _ _ h => h) (Or.inl ⟨by rfl, ?_⟩) (by assumption) ?_
     ·
      intro wx hSw
      go_simp
      try with_reducible rfl
     try simp only [Act.put, La1, La2, La3]
     refine tk (i := 7) (oi := ⟨some 145, .pick (.tmp 141) (.const (.bool true)) (.tmp 144), 4, "law.go:44", #[⟨3, .data⟩, ⟨6, .data⟩], none⟩) (v := .bool false) rfl (by kernel_rfl) (fun _ _ _ h => h) (Or.inl ⟨by rfl, ?_⟩) (by assumption) ?_
     ·
      intro wx hSw
      go_simp
      try with_reducible rfl
     try simp only [Act.put, La1, La2, La3]
     refine tk (i := 8) (oi := ⟨some 146, .move (.tmp 145), 4, "law.go:44", #[⟨7, .data⟩, ⟨3, .chain⟩], none⟩) (v := .bool false) rfl (by kernel_rfl) (fun _ _ _ h => h) (Or.inl ⟨by rfl, ?_⟩) (by assumption) ?_
     ·
      intro wx hSw
      go_simp
      try with_reducible rfl
     try simp only [Act.put, La1, La2, La3]
     refine tk (i := 9) (oi := ⟨some 147, .move (.tmp 20), 24, "law.go:44", #[⟨8, .guard⟩], some (8, false)⟩) (v := .int .i64 code) rfl (by kernel_rfl) (fun _ _ _ h => h) (Or.inl ⟨by rfl, ?_⟩) (by assumption) ?_
     ·
      intro wx hSw
      go_simp
      try with_reducible rfl
     try simp only [Act.put, La1, La2, La3]
     refine tk (i := 10) (oi := ⟨some 148, .move (.tmp 23), 24, "law.go:44", #[⟨8, .guard⟩], some (8, false)⟩) (v := .int .i64 code) rfl (by kernel_rfl) (fun _ _ _ h => h) (Or.inl ⟨by rfl, ?_⟩) (by assumption) ?_
     ·
      intro wx hSw
      go_simp
      try with_reducible rfl
     try simp only [Act.put, La1, La2, La3]
     refine tk (i := 11) (oi := ⟨some 149, .binOp .neq 24 (.tmp 147) (.tmp 148) 24, 4, "law.go:44", #[⟨9, .data⟩, ⟨10, .data⟩, ⟨8, .guard⟩], some (8, false)⟩) (v := .bool false) rfl (by kernel_rfl) (fun _ _ _ h => h) (Or.inl ⟨by rfl, ?_⟩) (by assumption) ?_
     ·
      intro wx hSw
      go_simp
      try with_reducible rfl
     try simp only [Act.put, La1, La2, La3]
     refine tk (i := 12) (oi := ⟨some 150, .pick (.tmp 146) (.const (.bool true)) (.tmp 149), 4, "law.go:44", #[⟨8, .data⟩, ⟨11, .data⟩], none⟩) (v := .bool false) rfl (by kernel_rfl) (fun _ _ _ h => h) (Or.inl ⟨by rfl, ?_⟩) (by assumption) ?_
     ·
      intro wx hSw
      go_simp
      try with_reducible rfl
     try simp only [Act.put, La1, La2, La3]
     refine tk (i := 13) (oi := ⟨some 151, .move (.tmp 150), 4, "law.go:44", #[⟨12, .data⟩, ⟨8, .chain⟩], none⟩) (v := .bool false) rfl (by kernel_rfl) (fun _ _ _ h => h) (Or.inl ⟨by rfl, ?_⟩) (by assumption) ?_
     ·
      intro wx hSw
      go_simp
      try with_reducible rfl
     try simp only [Act.put, La1, La2, La3]
     refine tk (i := 14) (oi := ⟨some 152, .move (.tmp 7), 23, "law.go:44", #[⟨13, .guard⟩], some (13, false)⟩) (v := .pointer (some ⟨B, 0, none⟩)) rfl (by kernel_rfl) (fun _ _ _ h => h) (Or.inl ⟨by rfl, ?_⟩) (by assumption) ?_
     ·
      intro wx hSw
      go_simp
      try with_reducible rfl
     try simp only [Act.put, La1, La2, La3]
     refine tk (i := 16) (oi := ⟨some 154, .move (.tmp 9), 27, "law.go:44", #[⟨13, .guard⟩], some (13, false)⟩) (v := .pointer (some ⟨K, 0, none⟩)) rfl (by kernel_rfl) (fun _ _ _ h => h) (Or.inl ⟨by rfl, ?_⟩) (by assumption) ?_
     ·
      intro wx hSw
      go_simp
      try with_reducible rfl
     try simp only [Act.put, La1, La2, La3]
     refine tk (i := 17) (oi := ⟨some 155, .nilCheck (.tmp 154), 0, "law.go:44", #[⟨16, .data⟩, ⟨13, .guard⟩], some (13, false)⟩) (v := .pointer (some ⟨K, 0, none⟩)) rfl (by kernel_rfl) (fun _ _ _ h => h) (Or.inl ⟨by rfl, ?_⟩) (by assumption) ?_
     ·
      intro wx hSw
      go_simp
      try with_reducible rfl
     try simp only [Act.put, La1, La2, La3]
     refine tk (i := 18) (oi := ⟨some 156, .fieldAddr 44 (.tmp 155) 3, 0, "law.go:44", #[⟨17, .data⟩, ⟨13, .guard⟩], some (13, false)⟩) (v := .pointer (some ⟨K, 3, none⟩)) rfl (by kernel_rfl) (fun _ _ _ h => h) (Or.inl ⟨by rfl, ?_⟩) (by assumption) ?_
     ·
      intro wx hSw
      go_simp
      try with_reducible rfl
     try simp only [Act.put, La1, La2, La3]
     refine tk (i := 19) (oi := ⟨some 157, .load 42 (.tmp 156), 42, "law.go:44", #[⟨18, .data⟩, ⟨13, .guard⟩], some (13, false)⟩) (v := .slice pp Z2.length cc) rfl (by kernel_rfl) (fun _ _ _ h => h) (Or.inl ⟨by rfl, ?_⟩) (by assumption) ?_
     ·
      intro wx hSw
      try dsimp only at hSw
      have u3 := hX3 wx hSw
      obtain ⟨⟨u10, u11, u12, u13, u14, u15, u16, u17, u18, u19⟩, -, -⟩ := (hX1 wx hSw).ten
      obtain ⟨⟨u20, u21, u22, u23, u24, u25, u26, u27, u28, u29⟩, -, -⟩ := (hX2 wx hSw).ten
      go_simp
      try with_reducible rfl
     try simp only [Act.put, La1, La2, La3]
     refine tk (i := 20) (oi := ⟨some 158, .call { callee := .builtin .len, args := #[.tmp 157], argTypes := #[42] }, 3, "law.go:44", #[⟨19, .data⟩, ⟨13, .guard⟩], some (13, false)⟩) (v := .int .i64 (Z2.length : Int)) rfl (by kernel_rfl) (fun _ _ _ h => h) (Or.inl ⟨by rfl, ?_⟩) (by assumption) ?_
     ·
      intro wx hSw
      try dsimp only at hSw
      have u3 := hX3 wx hSw
      obtain ⟨⟨u10, u11, u12, u13, u14, u15, u16, u17, u18, u19⟩, -, -⟩ := (hX1 wx hSw).ten
      obtain ⟨⟨u20, u21, u22, u23, u24, u25, u26, u27, u28, u29⟩, -, -⟩ := (hX2 wx hSw).ten
      go_simp
      try with_reducible rfl
     try simp only [Act.put, La1, La2, La3]
     refine wpAnyH_ready (rs := [15]) (by kernel_rfl) (by simp) ?_
     refine AllReadyH.cons (o := ⟨some 153, .call { callee := .value (.func 15), args := #[.tmp 152], argTypes := #[23] }, 3, "law.go:44", #[⟨14, .data⟩, ⟨13, .chain⟩, ⟨13, .guard⟩], some (13, false)⟩) rfl (fun K hK => ?_) AllReadyH.nil
     go_simp
     go_simp
     refine (hlnW _ hHeld).mono ?_
     rintro e wk ⟨rfl, rfl⟩
     first
      | refine hK.out _ _ ?_ (fun hHeld => ?_)
      | (go_wp2_with fail; refine hK.out _ _ ?_ (fun hHeld => ?_))
     ·
      try dsimp only
      exact hHeld
     clear hK K
     try simp only [Act.put, La1, La2, La3]
     refine tk (i := 21) (oi := ⟨some 159, .binOp .neq 3 (.tmp 153) (.tmp 158) 3, 4, "law.go:44", #[⟨15, .data⟩, ⟨20, .data⟩, ⟨13, .guard⟩], some (13, false)⟩) (v := .bool false) rfl (by kernel_rfl) (fun _ _ _ h => h) (Or.inl ⟨by rfl, ?_⟩) (by assumption) ?_
     ·
      intro wx hSw
      go_simp
      try with_reducible rfl
     try simp only [Act.put, La1, La2, La3]
     refine tk (i := 22) (oi := ⟨some 160, .pick (.tmp 151) (.const (.bool true)) (.tmp 159), 4, "law.go:44", #[⟨13, .data⟩, ⟨21, .data⟩], none⟩) (v := .bool false) rfl (by kernel_rfl) (fun _ _ _ h => h) (Or.inl ⟨by rfl, ?_⟩) (by assumption) ?_
     ·
      intro wx hSw
      go_simp
      try with_reducible rfl
     try simp only [Act.put, La1, La2, La3]
     refine wpAnyH_done (by kernel_rfl) ?_ _
     have hP4 := hP3.later hHeld
     have hb4 := bt hbf hHeld
     clear hX1 hX2 hX3 hlnW
     go_wp2
     go_roundw
     case rel => exact ⟨k + 1, la2, tu2, Z2, _, by omega, by omega, by simp, hP4, by omega, hb4⟩
     case measure => simp [intOf]; omega
end Go.Proofs.Ytcjhniehbafhpaa
