/- the texts Jm, Jq, Jr, Je, in part, merged by program -/
import Derived.Test.YtcjhniehbafhpaaProg
import Derived.Test.YtcjhniehbafhpaaRows
import Derived.Deep.QuietTactic
import Derived.BigQuiet
import Derived.WalkKit
import Derived.WalkSpells
import Derived.Laws.OwnMore
import Derived.Maps.RangeWalk
import Derived.Maps.OwnSet
import Derived.Maps.Ext
import Derived.Maps.Keyed
import Derived.DeepKeys4
import Derived.WalkSmall
import Derived.Deep.Cut
import Derived.Deep.CutRange
import Derived.Deep.MidRow
import Derived.Deep.RegionWith
import Derived.OwnWalk
import Derived.Laws.CopyRow
import Derived.OrdersHeld
import Derived.Shelf.Spec.SlicesInsert
import Derived.Lib.AppendZerosOnto
import Derived.Maps.AppendAt
import Derived.Lib.Overlaps
import Derived.Shelf.Strings.BuilderK
import Derived.Laws.AppendOwn
import Derived.Laws.AppendOwnNone
import Derived.Carry
import Derived.Shelf.SlSortCmp.WholeK
import Derived.Great.BuildSlice
import Derived.Shelf.SlSortCmp.NoneTotal
import Derived.Deep.RegionHeld3
import Derived.LoopN
import Derived.Test.YtcjhniehbafhpaaMA01
import Derived.Test.YtcjhniehbafhpaaMA02
import Derived.Test.YtcjhniehbafhpaaMA03
import Derived.Test.YtcjhniehbafhpaaMA04
import Derived.Test.YtcjhniehbafhpaaMA05
import Derived.Test.YtcjhniehbafhpaaMA06
import Derived.Test.YtcjhniehbafhpaaMA07
import Derived.Test.YtcjhniehbafhpaaMA09
import Derived.Test.YtcjhniehbafhpaaMA10
import Derived.Test.YtcjhniehbafhpaaMA12
import Derived.Test.YtcjhniehbafhpaaMA13
import Derived.Test.YtcjhniehbafhpaaMA15
import Derived.Test.YtcjhniehbafhpaaMA16
namespace Go.Proofs.Ytcjhniehbafhpaa
open Go.RowKit Go.Maps
set_option maxRecDepth 100000
set_option linter.unusedVariables false
set_option linter.unusedSimpArgs false

def TKB (w w' : World) (K base : Nat) (ro pa now : Int) (L L2 : List DP) : Prop := ∃ v2, DX w' K base ro pa now v2 L2 ∧ (∀ j, v2.ownBlock = some j → w.heap.size ≤ j) ∧ (∀ y ∈ L2, y ∈ L ∨ ∀ j, y.v.ownBlock = some j → w.heap.size ≤ j) ∧ Turn (fun k => k = K) w w'
theorem tkb_fin {w wk w5 : World} {K base z : Nat} {ro pa now : Int} {v2 : Value} {L L2 : List DP} (hz : z < w.heap.size + 2) (hzw : w.heap.size ≤ z) (hDX : DX wk K base ro pa now v2 L2) (h2 : ∀ j, v2.ownBlock = some j → w.heap.size + 2 ≤ j) (h3 : ∀ y ∈ L2, y ∈ L ∨ ∀ j, y.v.ownBlock = some j → w.heap.size + 2 ≤ j) (hL : ∀ x ∈ L, ∀ j, x.v.ownBlock = some j → j < w.heap.size) (h4 : Turn (fun k => k = K) w wk) (hK : K < w.heap.size) (ht5 : Turn (fun k => k = z) wk w5) : TKB w w5 K base ro pa now L L2 := by
 refine ⟨v2, ⟨hDX.box.turn ht5 (by omega), hDX.list.turnB ht5 (fun j hj e => by have := h2 j hj; omega), fun y hy => (hDX.ok y hy).turn ht5 (fun j hj e => ?_), hDX.kb, by have := ht5.size; have := hDX.bw; omega⟩, fun j hj => by have := h2 j hj; omega, fun y hy => (h3 y hy).imp id (fun h j hj => by have := h j hj; omega), h4.step ht5 (fun k hk => by omega)⟩
 rcases h3 y hy with h | h
 · have := hL y h j hj; omega
 · have := h j hj; omega
theorem map_cut (L : List DP) (k : Nat) : (L.map DP.e).take k ++ (L.map DP.e).drop (k + 1) = (L.take k ++ L.drop (k + 1)).map DP.e := by rw [List.map_append, List.map_take, List.map_drop]
theorem cut_mem {L : List DP} {k : Nat} {y : DP} (h : y ∈ L.take k ++ L.drop (k + 1)) : y ∈ L := (List.mem_append.1 h).elim List.mem_of_mem_take List.mem_of_mem_drop
theorem one_list {L : List DP} {w : World} {base : Nat} (h : ∀ x ∈ L, RW w base x.v x.ps) : ∀ e ∈ L.map DP.e, e.2.oneCell' = true := by
 intro e he
 obtain ⟨x, hx, rfl⟩ := List.mem_map.1 he
 exact rw_cell (h x hx)
set_option maxHeartbeats 8000000 in
theorem rtake_bado (p : Pk) (hmay : p.may = true) {w : World} {K base : Nat} {ro pa la : Int} {v : Value} {L : List DP} (h : DX w K base ro pa la v L) (now : Int) (hn1 : la ≤ now) (hn2 : now ≤ 1099511627776) (hwh : wholeB p.fr p.mo = false) (hll : L.length ≤ 64) (i : Nat) (hil : i < L.length) (hno : ∀ k x, k < i → L[k]? = some x → ∃ q, x.ps[0]? = some q ∧ mk q ≠ mk p) (hye : ∀ x, L[i]? = some x → ∃ q, x.ps[0]? = some q ∧ mk q = mk p) (hpl : ∀ x ∈ L, x.ps.length ≤ 1000) (hfi : ∀ x ∈ L, ∀ q ∈ x.ps, q.Fine) (hhas : ∀ x, L[i]? = some x → ∀ q ∈ x.ps, sameB q p = false) (hfit : ∀ x, L[i]? = some x → rfitsB x.ps p = false) :
  Calls Try.prog 14 #[.pointer (some ⟨K, 0, none⟩), .agg #[.int .i64 p.f, .int .i64 p.t, .int .i64 p.tl, .int .i64 p.pr, .int .i64 p.id, .int .i64 p.fr, .bool p.mo, .bool p.dn, .string p.op, .string p.da], .int .i64 now] w fun e w' => e = .returned (.tuple #[.agg #[.int .i64 0, .int .i64 0, .int .i64 0, .int .i64 0, .int .i64 0, .int .i64 0, .bool false, .bool false, .string ⟨#[]⟩, .string ⟨#[]⟩], .bool false, .int .i64 120]) ∧ TKB w w' K base ro pa now L (L.take i ++ L.drop (i + 1)) := by
 have HFT : Hid (∀ x, L[i]? = some x → rfitsB x.ps p = false) := hfit
 clear hfit
 have HNO : Hid (∀ k x, k < i → L[k]? = some x → ∃ q, x.ps[0]? = some q ∧ mk q ≠ mk p) := hno
 have HYE : Hid (∀ x, L[i]? = some x → ∃ q, x.ps[0]? = some q ∧ mk q = mk p) := hye
 have HPL : Hid (∀ x ∈ L, x.ps.length ≤ 1000) := hpl
 have HFI : Hid (∀ x ∈ L, ∀ q ∈ x.ps, q.Fine) := hfi
 have HHA : Hid (∀ x, L[i]? = some x → ∀ q ∈ x.ps, sameB q p = false) := hhas
 clear hno hye hpl hhas hfi
 have hp := may_fine hmay
 have ho : p.op.size ≤ 1125899906842624 := by have := hp.ol; omega
 have hd : p.da.size ≤ 1125899906842624 := by have := hp.dl; omega
 have hPb := (At.box w #[.int .i64 p.f, .int .i64 p.t, .int .i64 p.tl, .int .i64 p.pr, .int .i64 p.id, .int .i64 p.fr, .bool p.mo, .bool p.dn, .string p.op, .string p.da] 32).later (bel1 _ (.cells #[.int .i64 0, .int .i64 0, .int .i64 0, .int .i64 0, .int .i64 0, .int .i64 0, .bool false, .bool false, .string ⟨#[]⟩, .string ⟨#[]⟩] 32))
 have hZb := At.box2 w (.cells #[.int .i64 p.f, .int .i64 p.t, .int .i64 p.tl, .int .i64 p.pr, .int .i64 p.id, .int .i64 p.fr, .bool p.mo, .bool p.dn, .string p.op, .string p.da] 32) #[.int .i64 0, .int .i64 0, .int .i64 0, .int .i64 0, .int .i64 0, .int .i64 0, .bool false, .bool false, .string ⟨#[]⟩, .string ⟨#[]⟩] 32
 have hl0 := bt (bel1 w (.cells #[.int .i64 p.f, .int .i64 p.t, .int .i64 p.tl, .int .i64 p.pr, .int .i64 p.id, .int .i64 p.fr, .bool p.mo, .bool p.dn, .string p.op, .string p.da] 32)) (bel1 _ (.cells #[.int .i64 0, .int .i64 0, .int .i64 0, .int .i64 0, .int .i64 0, .int .i64 0, .bool false, .bool false, .string ⟨#[]⟩, .string ⟨#[]⟩] 32))
 have hK := h.box
 have hT := h.list
 have hbw := h.bw
 have hkb := h.kb
 have HOK : Hid (DR w base v (L.map DP.e) ∧ ∀ x ∈ L, RW w base x.v x.ps) := ⟨hT, h.ok⟩
 obtain ⟨pp, n, cc, hv⟩ := hT.shape
 have hnl : n = L.length := by
  rcases hT with ⟨h1, h2⟩ | ⟨g, off, c, h1, -⟩
  ·
   rw [hv] at h1
   injection h1 with _ h1
   rw [h1, ← List.length_map (f := DP.e), h2]
   rfl
  ·
   rw [hv] at h1
   injection h1 with _ h1
   rw [h1, List.length_map]
 subst hnl
 subst hv
 replace hK := hK.later hl0
 clear h hT
 go_enter Try.func14, Try.ntmps14
 go_upto_region 1 with fail
 generalize (w.alloc (.cells #[.int .i64 p.f, .int .i64 p.t, .int .i64 p.tl, .int .i64 p.pr, .int .i64 p.id, .int .i64 p.fr, .bool p.mo, .bool p.dn, .string p.op, .string p.da] 32)).alloc (.cells #[.int .i64 0, .int .i64 0, .int .i64 0, .int .i64 0, .int .i64 0, .int .i64 0, .bool false, .bool false, .string ⟨#[]⟩, .string ⟨#[]⟩] 32) = W0 at *
 go_wp2_with (first | (refine wpList_load_at rfl 32 _ rfl _ w.heap.size #[.int .i64 p.f, .int .i64 p.t, .int .i64 p.tl, .int .i64 p.pr, .int .i64 p.id, .int .i64 p.fr, .bool p.mo, .bool p.dn, .string p.op, .string p.da] _ rfl hPb Try.underlying32 (by kernel_rfl) ?_) | fail)
 refine (rchk_t (dn := p.dn) hmay _ ho hd).mono ?_
 rintro e w1 ⟨rfl, l1⟩
 replace hZb := hZb.later l1
 replace hl0 := bt hl0 l1
 replace hK := hK.later l1
 replace hPb := hPb.later l1
 clear l1
 go_wp2_with fail
 refine (rtime_t K ro pa la now _ w1 hK hn1 hn2).mono ?_
 rintro e w2 ⟨rfl, hK2, ht2⟩
 have hs0 := hl0.size
 have hP2 := hPb.turn ht2 (fun e => by omega)
 have hZ2 := hZb.turn ht2 (fun e => by omega)
 have HT2 : Hid (Turn (fun k => k = K) w w2) := ((Turn.of_below (S := fun k => k = K) hl0)).trans ht2
 clear hPb hZb hK ht2 hl0
 go_wp2_with (first | (refine wpList_load_at rfl 32 _ rfl _ w.heap.size #[.int .i64 p.f, .int .i64 p.t, .int .i64 p.tl, .int .i64 p.pr, .int .i64 p.id, .int .i64 p.fr, .bool p.mo, .bool p.dn, .string p.op, .string p.da] _ rfl hP2 Try.underlying32 (by kernel_rfl) ?_) | fail)
 refine (rwhl_any p.f p.t p.tl p.pr p.id p.fr p.mo p.dn p.op p.da w2).mono ?_
 rw [hwh]
 rintro e w3 ⟨rfl, l3⟩
 have hP3 := hP2.later l3
 have hZ3 := hZ2.later l3
 have hK3 := hK2.later l3
 have ht3 := HT2.out.later l3
 have HT3 : Hid (Turn (fun k => k = K) w w3) := ht3
 have HD3 : Hid (DR w3 base (.slice pp L.length cc) (L.map DP.e)) := HOK.out.1.turn ht3 (fun k hk _ e => by omega)
 have HR3 : Hid (∀ x ∈ L, RW w3 base x.v x.ps) := fun x hx => (HOK.out.2 x hx).turn ht3 (fun k hk e => by have := (HOK.out.2 x hx).ge k hk; omega)
 have hs3 := ht3.size
 have hs4 : w.heap.size + 1 < w3.heap.size := hZ3.1
 clear l3 hP2 hZ2 HT2 hK2 ht3
 have hli : (L.length : Int) ≤ 64 := by omega
 go_wp2
 go_loopw [11] (fun vi wr => ∃ k : Nat, k ≤ i ∧ vi = .int .i64 (k : Int) ∧ Below w3.heap.size w3 wr) (fun vi _ => i - (intOf vi).toNat)
 case atStart => exact ⟨0, Nat.zero_le _, rfl, Below.refl _ _⟩
 case round =>
  obtain ⟨k, hk, rfl, hb⟩ := hrel
  have hlt : k < L.length := by omega
  by_cases hki : k < i
  ·
   skip
   obtain ⟨x, hx⟩ : ∃ x, L[k]? = some x := ⟨L[k], List.getElem?_eq_getElem hlt⟩
   have hxl := List.mem_of_getElem? hx
   obtain ⟨q, hq, hmk⟩ := HNO.out k x hki hx
   have hrow := (HR3.out x hxl).later hb
   obtain ⟨gx, xc, hxv, hcl⟩ : ∃ gx xc, x.v = .slice (some ⟨gx, 0, none⟩) x.ps.length xc ∧ ∀ j u, q.L[j]? = some u → wr.cell? ⟨gx, j, none⟩ = some u := by
    obtain ⟨g, c', cur, hv, -⟩ := hrow.real (fun e => by rw [e] at hq; cases hq)
    refine ⟨g, c', hv, fun j u hu => ?_⟩
    rw [hv] at hrow
    have := hrow.cells hq j u hu
    simpa using this
   obtain ⟨g, off, rfl, hgw, e1⟩ : ∃ g off, pp = some ⟨g, off, none⟩ ∧ g < w3.heap.size ∧ w3.cell? ⟨g, off + k * 2 + 1, none⟩ = some x.v := by
    rcases HD3.out with ⟨-, h2⟩ | ⟨g, off, c, h1, -, -, h3, h4⟩
    · rw [List.map_eq_nil_iff] at h2; rw [h2] at hlt; exact absurd hlt (Nat.not_lt_zero _)
    ·
     injection h1 with h1
     have := h4 k x.e (by rw [List.getElem?_map, hx]; rfl)
     exact ⟨g, off, h1, h3, this.2⟩
   rw [hxv] at e1
   replace e1 := later hb e1
   clear hxv hrow
   have hKr := hK3.later hb
   have hPr := hP3.later hb
   obtain ⟨⟨a0, a1, a2, a3, a4, a5, a6, a7, a8, a9⟩, -, -⟩ := hPr.ten
   have c3 := (hKr.2 3 _ rfl).1
   have hc3 : ∀ wx, Below wr.heap.size wr wx → wx.cell? ⟨K, 3, none⟩ = some (.slice (some ⟨g, off, none⟩) L.length cc) := fun wx h => later h c3
   have he1 : ∀ wx, Below wr.heap.size wr wx → wx.cell? ⟨g, off + k * 2 + 1, none⟩ = some (.slice (some ⟨gx, 0, none⟩) x.ps.length xc) := fun wx h => later h e1
   have hp0 := fun wx (h : Below wr.heap.size wr wx) => later h a0
   have hp1 := fun wx (h : Below wr.heap.size wr wx) => later h a1
   have hp2 := fun wx (h : Below wr.heap.size wr wx) => later h a2
   have hp3 := fun wx (h : Below wr.heap.size wr wx) => later h a3
   have hp4 := fun wx (h : Below wr.heap.size wr wx) => later h a4
   have hp5 := fun wx (h : Below wr.heap.size wr wx) => later h a5
   have hp6 := fun wx (h : Below wr.heap.size wr wx) => later h a6
   have hp7 := fun wx (h : Below wr.heap.size wr wx) => later h a7
   have hp8 := fun wx (h : Below wr.heap.size wr wx) => later h a8
   have hp9 := fun wx (h : Below wr.heap.size wr wx) => later h a9
   have hq0 := fun wx (h : Below wr.heap.size wr wx) => later h (hcl 0 _ rfl)
   have hq1 := fun wx (h : Below wr.heap.size wr wx) => later h (hcl 1 _ rfl)
   have hq2 := fun wx (h : Below wr.heap.size wr wx) => later h (hcl 2 _ rfl)
   have hq3 := fun wx (h : Below wr.heap.size wr wx) => later h (hcl 3 _ rfl)
   have hq4 := fun wx (h : Below wr.heap.size wr wx) => later h (hcl 4 _ rfl)
   have hq5 := fun wx (h : Below wr.heap.size wr wx) => later h (hcl 5 _ rfl)
   have hq6 := fun wx (h : Below wr.heap.size wr wx) => later h (hcl 6 _ rfl)
   have hq7 := fun wx (h : Below wr.heap.size wr wx) => later h (hcl 7 _ rfl)
   have hq8 := fun wx (h : Below wr.heap.size wr wx) => later h (hcl 8 _ rfl)
   have hq9 := fun wx (h : Below wr.heap.size wr wx) => later h (hcl 9 _ rfl)
   have hk1 : (k : Int) < (L.length : Int) := by omega
   have hk3 : (0 : Int) ≤ (k : Int) := by omega
   have hxl0 : 0 < x.ps.length := by
    cases hps : x.ps with
    | nil => rw [hps] at hq; cases hq
    | cons _ _ => simp
   have hxl1 : (0 : Int) < (x.ps.length : Int) := by omega
   clear hx hxl hcl c3 e1 hKr hPr a0 a1 a2 a3 a4 a5 a6 a7 a8 a9
   have hdec : decide (mk q = mk p) = false := decide_eq_false hmk
   clear hmk hq
   go_upto_region 10 with fail
   refine wp_region_held_drew (S := (fun W => Below wr.heap.size wr W)) (by kernel_rfl) ?_ (fun hHeld => ?_)
   · first | exact (Below.refl _ _).drew | assumption
   refine tk (i := 0) (oi := ⟨some 36, .move (.tmp 11), 3, "ref.go:120", #[], none⟩) (v := .int .i64 (k : Int)) rfl (by kernel_rfl) (fun _ _ _ h => h) (Or.inl ⟨by rfl, ?_⟩) (by assumption) ?_
   ·
    intro wx hSw
    go_simp
    try with_reducible rfl
   try simp only [Act.put, La1, La2, La3]
   refine tk (i := 1) (oi := ⟨some 37, .move (.tmp 0), 27, "ref.go:120", #[], none⟩) (v := .pointer (some ⟨K, 0, none⟩)) rfl (by kernel_rfl) (fun _ _ _ h => h) (Or.inl ⟨by rfl, ?_⟩) (by assumption) ?_
   ·
    intro wx hSw
    go_simp
    try with_reducible rfl
   try simp only [Act.put, La1, La2, La3]
   refine tk (i := 2) (oi := ⟨some 38, .nilCheck (.tmp 37), 0, "ref.go:120", #[⟨1, .data⟩], none⟩) (v := .pointer (some ⟨K, 0, none⟩)) rfl (by kernel_rfl) (fun _ _ _ h => h) (Or.inl ⟨by rfl, ?_⟩) (by assumption) ?_
   ·
    intro wx hSw
    go_simp
    try with_reducible rfl
   try simp only [Act.put, La1, La2, La3]
   refine tk (i := 3) (oi := ⟨some 39, .fieldAddr 44 (.tmp 38) 3, 0, "ref.go:120", #[⟨2, .data⟩], none⟩) (v := .pointer (some ⟨K, 3, none⟩)) rfl (by kernel_rfl) (fun _ _ _ h => h) (Or.inl ⟨by rfl, ?_⟩) (by assumption) ?_
   ·
    intro wx hSw
    go_simp
    try with_reducible rfl
   try simp only [Act.put, La1, La2, La3]
   refine tk (i := 4) (oi := ⟨some 40, .load 42 (.tmp 39), 42, "ref.go:120", #[⟨3, .data⟩], none⟩) (v := .slice (some ⟨g, off, none⟩) L.length cc) rfl (by kernel_rfl) (fun _ _ _ h => h) (Or.inl ⟨by rfl, ?_⟩) (by assumption) ?_
   ·
    intro wx hSw
    try dsimp only at hSw
    have u3 := hc3 wx hSw
    have u1 := he1 wx hSw
    have u10 := hp0 wx hSw
    have u11 := hp1 wx hSw
    have u12 := hp2 wx hSw
    have u13 := hp3 wx hSw
    have u14 := hp4 wx hSw
    have u15 := hp5 wx hSw
    have u16 := hp6 wx hSw
    have u17 := hp7 wx hSw
    have u18 := hp8 wx hSw
    have u19 := hp9 wx hSw
    have u20 := hq0 wx hSw
    have u21 := hq1 wx hSw
    have u22 := hq2 wx hSw
    have u23 := hq3 wx hSw
    have u24 := hq4 wx hSw
    have u25 := hq5 wx hSw
    have u26 := hq6 wx hSw
    have u27 := hq7 wx hSw
    have u28 := hq8 wx hSw
    have u29 := hq9 wx hSw
    go_simp
    try with_reducible rfl
   try simp only [Act.put, La1, La2, La3]
   refine tk (i := 5) (oi := ⟨some 41, .call { callee := .builtin .len, args := #[.tmp 40], argTypes := #[42] }, 3, "ref.go:120", #[⟨4, .data⟩], none⟩) (v := .int .i64 (L.length : Int)) rfl (by kernel_rfl) (fun _ _ _ h => h) (Or.inl ⟨by rfl, ?_⟩) (by assumption) ?_
   ·
    intro wx hSw
    try dsimp only at hSw
    have u3 := hc3 wx hSw
    have u1 := he1 wx hSw
    have u10 := hp0 wx hSw
    have u11 := hp1 wx hSw
    have u12 := hp2 wx hSw
    have u13 := hp3 wx hSw
    have u14 := hp4 wx hSw
    have u15 := hp5 wx hSw
    have u16 := hp6 wx hSw
    have u17 := hp7 wx hSw
    have u18 := hp8 wx hSw
    have u19 := hp9 wx hSw
    have u20 := hq0 wx hSw
    have u21 := hq1 wx hSw
    have u22 := hq2 wx hSw
    have u23 := hq3 wx hSw
    have u24 := hq4 wx hSw
    have u25 := hq5 wx hSw
    have u26 := hq6 wx hSw
    have u27 := hq7 wx hSw
    have u28 := hq8 wx hSw
    have u29 := hq9 wx hSw
    go_simp
    try with_reducible rfl
   try simp only [Act.put, La1, La2, La3]
   refine tk (i := 6) (oi := ⟨some 42, .binOp .lss 3 (.tmp 36) (.tmp 41) 3, 4, "ref.go:120", #[⟨0, .data⟩, ⟨5, .data⟩], none⟩) (v := .bool true) rfl (by kernel_rfl) (fun _ _ _ h => h) (Or.inl ⟨by rfl, ?_⟩) (by assumption) ?_
   ·
    intro wx hSw
    go_simp
    try with_reducible rfl
   try simp only [Act.put, La1, La2, La3]
   refine tk (i := 7) (oi := ⟨some 43, .move (.tmp 42), 4, "ref.go:120", #[⟨6, .data⟩], none⟩) (v := .bool true) rfl (by kernel_rfl) (fun _ _ _ h => h) (Or.inl ⟨by rfl, ?_⟩) (by assumption) ?_
   ·
    intro wx hSw
    go_simp
    try with_reducible rfl
   try simp only [Act.put, La1, La2, La3]
   refine tk (i := 8) (oi := ⟨some 44, .move (.tmp 0), 27, "ref.go:120", #[⟨7, .guard⟩], some (7, true)⟩) (v := .pointer (some ⟨K, 0, none⟩)) rfl (by kernel_rfl) (fun _ _ _ h => h) (Or.inl ⟨by rfl, ?_⟩) (by assumption) ?_
   ·
    intro wx hSw
    go_simp
    try with_reducible rfl
   try simp only [Act.put, La1, La2, La3]
   refine tk (i := 9) (oi := ⟨some 45, .nilCheck (.tmp 44), 0, "ref.go:120", #[⟨8, .data⟩, ⟨7, .guard⟩], some (7, true)⟩) (v := .pointer (some ⟨K, 0, none⟩)) rfl (by kernel_rfl) (fun _ _ _ h => h) (Or.inl ⟨by rfl, ?_⟩) (by assumption) ?_
   ·
    intro wx hSw
    go_simp
    try with_reducible rfl
   try simp only [Act.put, La1, La2, La3]
   refine tk (i := 10) (oi := ⟨some 46, .fieldAddr 44 (.tmp 45) 3, 0, "ref.go:120", #[⟨9, .data⟩, ⟨7, .guard⟩], some (7, true)⟩) (v := .pointer (some ⟨K, 3, none⟩)) rfl (by kernel_rfl) (fun _ _ _ h => h) (Or.inl ⟨by rfl, ?_⟩) (by assumption) ?_
   ·
    intro wx hSw
    go_simp
    try with_reducible rfl
   try simp only [Act.put, La1, La2, La3]
   refine tk (i := 11) (oi := ⟨some 47, .load 42 (.tmp 46), 42, "ref.go:120", #[⟨10, .data⟩, ⟨7, .guard⟩], some (7, true)⟩) (v := .slice (some ⟨g, off, none⟩) L.length cc) rfl (by kernel_rfl) (fun _ _ _ h => h) (Or.inl ⟨by rfl, ?_⟩) (by assumption) ?_
   ·
    intro wx hSw
    try dsimp only at hSw
    have u3 := hc3 wx hSw
    have u1 := he1 wx hSw
    have u10 := hp0 wx hSw
    have u11 := hp1 wx hSw
    have u12 := hp2 wx hSw
    have u13 := hp3 wx hSw
    have u14 := hp4 wx hSw
    have u15 := hp5 wx hSw
    have u16 := hp6 wx hSw
    have u17 := hp7 wx hSw
    have u18 := hp8 wx hSw
    have u19 := hp9 wx hSw
    have u20 := hq0 wx hSw
    have u21 := hq1 wx hSw
    have u22 := hq2 wx hSw
    have u23 := hq3 wx hSw
    have u24 := hq4 wx hSw
    have u25 := hq5 wx hSw
    have u26 := hq6 wx hSw
    have u27 := hq7 wx hSw
    have u28 := hq8 wx hSw
    have u29 := hq9 wx hSw
    go_simp
    try with_reducible rfl
   try simp only [Act.put, La1, La2, La3]
   refine tk (i := 12) (oi := ⟨some 48, .move (.tmp 11), 3, "ref.go:120", #[⟨7, .guard⟩], some (7, true)⟩) (v := .int .i64 (k : Int)) rfl (by kernel_rfl) (fun _ _ _ h => h) (Or.inl ⟨by rfl, ?_⟩) (by assumption) ?_
   ·
    intro wx hSw
    go_simp
    try with_reducible rfl
   try simp only [Act.put, La1, La2, La3]
   refine tk (i := 13) (oi := ⟨some 49, .indexAddr 42 (.tmp 47) (.tmp 48), 0, "ref.go:120", #[⟨11, .data⟩, ⟨12, .data⟩, ⟨7, .guard⟩], some (7, true)⟩) (v := .pointer (some ⟨g, off + k * 2, none⟩)) rfl (by kernel_rfl) (fun _ _ _ h => h) (Or.inl ⟨by rfl, ?_⟩) (by assumption) ?_
   ·
    intro wx hSw
    go_simp
    try with_reducible rfl
   try simp only [Act.put, La1, La2, La3]
   refine tk (i := 14) (oi := ⟨some 50, .fieldAddr 64 (.tmp 49) 1, 0, "ref.go:120", #[⟨13, .data⟩, ⟨7, .guard⟩], some (7, true)⟩) (v := .pointer (some ⟨g, off + k * 2 + 1, none⟩)) rfl (by kernel_rfl) (fun _ _ _ h => h) (Or.inl ⟨by rfl, ?_⟩) (by assumption) ?_
   ·
    intro wx hSw
    go_simp
    try with_reducible rfl
   try simp only [Act.put, La1, La2, La3]
   refine tk (i := 15) (oi := ⟨some 51, .load 36 (.tmp 50), 36, "ref.go:120", #[⟨14, .data⟩, ⟨7, .guard⟩], some (7, true)⟩) (v := .slice (some ⟨gx, 0, none⟩) x.ps.length xc) rfl (by kernel_rfl) (fun _ _ _ h => h) (Or.inl ⟨by rfl, ?_⟩) (by assumption) ?_
   ·
    intro wx hSw
    try dsimp only at hSw
    have u3 := hc3 wx hSw
    have u1 := he1 wx hSw
    have u10 := hp0 wx hSw
    have u11 := hp1 wx hSw
    have u12 := hp2 wx hSw
    have u13 := hp3 wx hSw
    have u14 := hp4 wx hSw
    have u15 := hp5 wx hSw
    have u16 := hp6 wx hSw
    have u17 := hp7 wx hSw
    have u18 := hp8 wx hSw
    have u19 := hp9 wx hSw
    have u20 := hq0 wx hSw
    have u21 := hq1 wx hSw
    have u22 := hq2 wx hSw
    have u23 := hq3 wx hSw
    have u24 := hq4 wx hSw
    have u25 := hq5 wx hSw
    have u26 := hq6 wx hSw
    have u27 := hq7 wx hSw
    have u28 := hq8 wx hSw
    have u29 := hq9 wx hSw
    go_simp
    try with_reducible rfl
   try simp only [Act.put, La1, La2, La3]
   refine tk (i := 16) (oi := ⟨some 52, .indexAddr 36 (.tmp 51) (.const (.int .i64 0)), 0, "ref.go:120", #[⟨15, .data⟩, ⟨7, .guard⟩], some (7, true)⟩) (v := .pointer (some ⟨gx, 0, none⟩)) rfl (by kernel_rfl) (fun _ _ _ h => h) (Or.inl ⟨by rfl, ?_⟩) (by assumption) ?_
   ·
    intro wx hSw
    go_simp
    try with_reducible rfl
   try simp only [Act.put, La1, La2, La3]
   refine tk (i := 17) (oi := ⟨some 53, .load 32 (.tmp 52), 32, "ref.go:120", #[⟨16, .data⟩, ⟨7, .guard⟩], some (7, true)⟩) (v := .agg #[.int .i64 q.f, .int .i64 q.t, .int .i64 q.tl, .int .i64 q.pr, .int .i64 q.id, .int .i64 q.fr, .bool q.mo, .bool q.dn, .string q.op, .string q.da]) rfl (by kernel_rfl) (fun _ _ _ h => h) (Or.inl ⟨by rfl, ?_⟩) (by assumption) ?_
   ·
    intro wx hSw
    try dsimp only at hSw
    have u3 := hc3 wx hSw
    have u1 := he1 wx hSw
    have u10 := hp0 wx hSw
    have u11 := hp1 wx hSw
    have u12 := hp2 wx hSw
    have u13 := hp3 wx hSw
    have u14 := hp4 wx hSw
    have u15 := hp5 wx hSw
    have u16 := hp6 wx hSw
    have u17 := hp7 wx hSw
    have u18 := hp8 wx hSw
    have u19 := hp9 wx hSw
    have u20 := hq0 wx hSw
    have u21 := hq1 wx hSw
    have u22 := hq2 wx hSw
    have u23 := hq3 wx hSw
    have u24 := hq4 wx hSw
    have u25 := hq5 wx hSw
    have u26 := hq6 wx hSw
    have u27 := hq7 wx hSw
    have u28 := hq8 wx hSw
    have u29 := hq9 wx hSw
    go_simp
    try with_reducible rfl
   try simp only [Act.put, La1, La2, La3]
   refine tk (i := 18) (oi := ⟨some 54, .load 32 (.tmp 4), 32, "ref.go:120", #[⟨7, .guard⟩], some (7, true)⟩) (v := .agg #[.int .i64 p.f, .int .i64 p.t, .int .i64 p.tl, .int .i64 p.pr, .int .i64 p.id, .int .i64 p.fr, .bool p.mo, .bool p.dn, .string p.op, .string p.da]) rfl (by kernel_rfl) (fun _ _ _ h => h) (Or.inl ⟨by rfl, ?_⟩) (by assumption) ?_
   ·
    intro wx hSw
    try dsimp only at hSw
    have u3 := hc3 wx hSw
    have u1 := he1 wx hSw
    have u10 := hp0 wx hSw
    have u11 := hp1 wx hSw
    have u12 := hp2 wx hSw
    have u13 := hp3 wx hSw
    have u14 := hp4 wx hSw
    have u15 := hp5 wx hSw
    have u16 := hp6 wx hSw
    have u17 := hp7 wx hSw
    have u18 := hp8 wx hSw
    have u19 := hp9 wx hSw
    have u20 := hq0 wx hSw
    have u21 := hq1 wx hSw
    have u22 := hq2 wx hSw
    have u23 := hq3 wx hSw
    have u24 := hq4 wx hSw
    have u25 := hq5 wx hSw
    have u26 := hq6 wx hSw
    have u27 := hq7 wx hSw
    have u28 := hq8 wx hSw
    have u29 := hq9 wx hSw
    go_simp
    try with_reducible rfl
   try simp only [Act.put, La1, La2, La3]
   refine wpAnyH_ready (rs := [19]) (by kernel_rfl) (by simp) ?_
   refine AllReadyH.cons (o := ⟨some 55, .call { callee := .value (.func 26), args := #[.tmp 53, .tmp 54], argTypes := #[32, 32] }, 4, "ref.go:120", #[⟨17, .data⟩, ⟨18, .data⟩, ⟨7, .chain⟩, ⟨7, .guard⟩], some (7, true)⟩) rfl (fun K hK => ?_) AllReadyH.nil
   go_simp
   go_at_call 26
   refine (tog_any q p _).mono ?_
   rintro e wc ⟨rfl, hbc⟩
   rw [hdec]
   first
    | refine hK.out _ _ ?_ (fun hHeld => ?_)
    | (go_wp2_with fail; refine hK.out _ _ ?_ (fun hHeld => ?_))
   ·
    try dsimp only
    exact bt hHeld hbc
   clear hK K
   try simp only [Act.put, La1, La2, La3]
   refine tk (i := 20) (oi := ⟨some 56, .unOp .not 4 (.tmp 55), 4, "ref.go:120", #[⟨19, .data⟩, ⟨7, .guard⟩], some (7, true)⟩) (v := .bool true) rfl (by kernel_rfl) (fun _ _ _ h => h) (Or.inl ⟨by rfl, ?_⟩) (by assumption) ?_
   ·
    intro wx hSw
    go_simp
    try with_reducible rfl
   try simp only [Act.put, La1, La2, La3]
   refine tk (i := 21) (oi := ⟨some 57, .pick (.tmp 43) (.tmp 56) (.const (.bool false)), 4, "ref.go:120", #[⟨7, .data⟩, ⟨20, .data⟩], none⟩) (v := .bool true) rfl (by kernel_rfl) (fun _ _ _ h => h) (Or.inl ⟨by rfl, ?_⟩) (by assumption) ?_
   ·
    intro wx hSw
    go_simp
    try with_reducible rfl
   try simp only [Act.put, La1, La2, La3]
   refine wpAnyH_done (by kernel_rfl) ?_ _
   have hb' := bt hb hHeld
   clear hHeld
   go_wp2
   go_roundw
   case rel => exact ⟨k + 1, by omega, by first | rfl | simp, hb'⟩
   case measure => simp [intOf]; omega
  ·
   have hkk : k = i := by omega
   subst hkk
   obtain ⟨x, hx⟩ : ∃ x, L[k]? = some x := ⟨L[k], List.getElem?_eq_getElem hlt⟩
   have hxl := List.mem_of_getElem? hx
   obtain ⟨q, hq, hmk⟩ := HYE.out x hx
   have hrow := (HR3.out x hxl).later hb
   obtain ⟨gx, xc, hxv, hcl⟩ : ∃ gx xc, x.v = .slice (some ⟨gx, 0, none⟩) x.ps.length xc ∧ ∀ j u, q.L[j]? = some u → wr.cell? ⟨gx, j, none⟩ = some u := by
    obtain ⟨g, c', cur, hv, -⟩ := hrow.real (fun e => by rw [e] at hq; cases hq)
    refine ⟨g, c', hv, fun j u hu => ?_⟩
    rw [hv] at hrow
    have := hrow.cells hq j u hu
    simpa using this
   obtain ⟨g, off, rfl, hgw, e1⟩ : ∃ g off, pp = some ⟨g, off, none⟩ ∧ g < w3.heap.size ∧ w3.cell? ⟨g, off + k * 2 + 1, none⟩ = some x.v := by
    rcases HD3.out with ⟨-, h2⟩ | ⟨g, off, c, h1, -, -, h3, h4⟩
    · rw [List.map_eq_nil_iff] at h2; rw [h2] at hlt; exact absurd hlt (Nat.not_lt_zero _)
    ·
     injection h1 with h1
     have := h4 k x.e (by rw [List.getElem?_map, hx]; rfl)
     exact ⟨g, off, h1, h3, this.2⟩
   rw [hxv] at e1
   replace e1 := later hb e1
   rw [hxv] at hrow
   clear hxv
   have hKr := hK3.later hb
   have hPr := hP3.later hb
   obtain ⟨⟨a0, a1, a2, a3, a4, a5, a6, a7, a8, a9⟩, -, -⟩ := hPr.ten
   have c3 := (hKr.2 3 _ rfl).1
   have hc3 : ∀ wx, Below wr.heap.size wr wx → wx.cell? ⟨K, 3, none⟩ = some (.slice (some ⟨g, off, none⟩) L.length cc) := fun wx h => later h c3
   have he1 : ∀ wx, Below wr.heap.size wr wx → wx.cell? ⟨g, off + k * 2 + 1, none⟩ = some (.slice (some ⟨gx, 0, none⟩) x.ps.length xc) := fun wx h => later h e1
   have hp0 := fun wx (h : Below wr.heap.size wr wx) => later h a0
   have hp1 := fun wx (h : Below wr.heap.size wr wx) => later h a1
   have hp2 := fun wx (h : Below wr.heap.size wr wx) => later h a2
   have hp3 := fun wx (h : Below wr.heap.size wr wx) => later h a3
   have hp4 := fun wx (h : Below wr.heap.size wr wx) => later h a4
   have hp5 := fun wx (h : Below wr.heap.size wr wx) => later h a5
   have hp6 := fun wx (h : Below wr.heap.size wr wx) => later h a6
   have hp7 := fun wx (h : Below wr.heap.size wr wx) => later h a7
   have hp8 := fun wx (h : Below wr.heap.size wr wx) => later h a8
   have hp9 := fun wx (h : Below wr.heap.size wr wx) => later h a9
   have hq0 := fun wx (h : Below wr.heap.size wr wx) => later h (hcl 0 _ rfl)
   have hq1 := fun wx (h : Below wr.heap.size wr wx) => later h (hcl 1 _ rfl)
   have hq2 := fun wx (h : Below wr.heap.size wr wx) => later h (hcl 2 _ rfl)
   have hq3 := fun wx (h : Below wr.heap.size wr wx) => later h (hcl 3 _ rfl)
   have hq4 := fun wx (h : Below wr.heap.size wr wx) => later h (hcl 4 _ rfl)
   have hq5 := fun wx (h : Below wr.heap.size wr wx) => later h (hcl 5 _ rfl)
   have hq6 := fun wx (h : Below wr.heap.size wr wx) => later h (hcl 6 _ rfl)
   have hq7 := fun wx (h : Below wr.heap.size wr wx) => later h (hcl 7 _ rfl)
   have hq8 := fun wx (h : Below wr.heap.size wr wx) => later h (hcl 8 _ rfl)
   have hq9 := fun wx (h : Below wr.heap.size wr wx) => later h (hcl 9 _ rfl)
   have hk1 : (k : Int) < (L.length : Int) := by omega
   have hk3 : (0 : Int) ≤ (k : Int) := by omega
   have hxl0 : 0 < x.ps.length := by
    cases hps : x.ps with
    | nil => rw [hps] at hq; cases hq
    | cons _ _ => simp
   have hxl1 : (0 : Int) < (x.ps.length : Int) := by omega
   have e0 : w3.cell? ⟨g, off + k * 2, none⟩ = some (.int .i64 x.at_) := by
    rcases HD3.out with ⟨h1, -⟩ | ⟨g', off', c', h1, -, -, -, h4⟩
    · cases h1
    ·
     injection h1 with h1
     injection h1 with h1
     injection h1 with h1 h2
     subst h1 h2
     exact (h4 k x.e (by rw [List.getElem?_map, hx]; rfl)).1
   replace e0 := later hb e0
   have he0 : ∀ wx, Below wr.heap.size wr wx → wx.cell? ⟨g, off + k * 2, none⟩ = some (.int .i64 x.at_) := fun wx h => later h e0
   clear e0 hxl hcl e1 hKr hPr a0 a1 a2 a3 a4 a5 a6 a7 a8 a9
   have hdec : decide (mk q = mk p) = true := decide_eq_true hmk
   have hplx := HPL.out x (List.mem_of_getElem? hx)
   have HFX : Hid (∀ q ∈ x.ps, q.Fine) := HFI.out x (List.mem_of_getElem? hx)
   have HAS : Hid (∀ q ∈ x.ps, sameB q p = false) := HHA.out x hx
   have HRX : Hid (RW wr base (.slice (some ⟨gx, 0, none⟩) x.ps.length xc) x.ps) := hrow
   have HLX : Hid (L[k]? = some x) := hx
   clear hmk hq hx hrow c3
   go_upto_region 10 with fail
   refine wp_region_held_drew (S := (fun W => Below wr.heap.size wr W)) (by kernel_rfl) ?_ (fun hHeld => ?_)
   · first | exact (Below.refl _ _).drew | assumption
   refine tk (i := 0) (oi := ⟨some 36, .move (.tmp 11), 3, "ref.go:120", #[], none⟩) (v := .int .i64 (k : Int)) rfl (by kernel_rfl) (fun _ _ _ h => h) (Or.inl ⟨by rfl, ?_⟩) (by assumption) ?_
   ·
    intro wx hSw
    go_simp
    try with_reducible rfl
   try simp only [Act.put, La1, La2, La3]
   refine tk (i := 1) (oi := ⟨some 37, .move (.tmp 0), 27, "ref.go:120", #[], none⟩) (v := .pointer (some ⟨K, 0, none⟩)) rfl (by kernel_rfl) (fun _ _ _ h => h) (Or.inl ⟨by rfl, ?_⟩) (by assumption) ?_
   ·
    intro wx hSw
    go_simp
    try with_reducible rfl
   try simp only [Act.put, La1, La2, La3]
   refine tk (i := 2) (oi := ⟨some 38, .nilCheck (.tmp 37), 0, "ref.go:120", #[⟨1, .data⟩], none⟩) (v := .pointer (some ⟨K, 0, none⟩)) rfl (by kernel_rfl) (fun _ _ _ h => h) (Or.inl ⟨by rfl, ?_⟩) (by assumption) ?_
   ·
    intro wx hSw
    go_simp
    try with_reducible rfl
   try simp only [Act.put, La1, La2, La3]
   refine tk (i := 3) (oi := ⟨some 39, .fieldAddr 44 (.tmp 38) 3, 0, "ref.go:120", #[⟨2, .data⟩], none⟩) (v := .pointer (some ⟨K, 3, none⟩)) rfl (by kernel_rfl) (fun _ _ _ h => h) (Or.inl ⟨by rfl, ?_⟩) (by assumption) ?_
   ·
    intro wx hSw
    go_simp
    try with_reducible rfl
   try simp only [Act.put, La1, La2, La3]
   refine tk (i := 4) (oi := ⟨some 40, .load 42 (.tmp 39), 42, "ref.go:120", #[⟨3, .data⟩], none⟩) (v := .slice (some ⟨g, off, none⟩) L.length cc) rfl (by kernel_rfl) (fun _ _ _ h => h) (Or.inl ⟨by rfl, ?_⟩) (by assumption) ?_
   ·
    intro wx hSw
    try dsimp only at hSw
    have u3 := hc3 wx hSw
    have u1 := he1 wx hSw
    have u10 := hp0 wx hSw
    have u11 := hp1 wx hSw
    have u12 := hp2 wx hSw
    have u13 := hp3 wx hSw
    have u14 := hp4 wx hSw
    have u15 := hp5 wx hSw
    have u16 := hp6 wx hSw
    have u17 := hp7 wx hSw
    have u18 := hp8 wx hSw
    have u19 := hp9 wx hSw
    have u20 := hq0 wx hSw
    have u21 := hq1 wx hSw
    have u22 := hq2 wx hSw
    have u23 := hq3 wx hSw
    have u24 := hq4 wx hSw
    have u25 := hq5 wx hSw
    have u26 := hq6 wx hSw
    have u27 := hq7 wx hSw
    have u28 := hq8 wx hSw
    have u29 := hq9 wx hSw
    go_simp
    try with_reducible rfl
   try simp only [Act.put, La1, La2, La3]
   refine tk (i := 5) (oi := ⟨some 41, .call { callee := .builtin .len, args := #[.tmp 40], argTypes := #[42] }, 3, "ref.go:120", #[⟨4, .data⟩], none⟩) (v := .int .i64 (L.length : Int)) rfl (by kernel_rfl) (fun _ _ _ h => h) (Or.inl ⟨by rfl, ?_⟩) (by assumption) ?_
   ·
    intro wx hSw
    try dsimp only at hSw
    have u3 := hc3 wx hSw
    have u1 := he1 wx hSw
    have u10 := hp0 wx hSw
    have u11 := hp1 wx hSw
    have u12 := hp2 wx hSw
    have u13 := hp3 wx hSw
    have u14 := hp4 wx hSw
    have u15 := hp5 wx hSw
    have u16 := hp6 wx hSw
    have u17 := hp7 wx hSw
    have u18 := hp8 wx hSw
    have u19 := hp9 wx hSw
    have u20 := hq0 wx hSw
    have u21 := hq1 wx hSw
    have u22 := hq2 wx hSw
    have u23 := hq3 wx hSw
    have u24 := hq4 wx hSw
    have u25 := hq5 wx hSw
    have u26 := hq6 wx hSw
    have u27 := hq7 wx hSw
    have u28 := hq8 wx hSw
    have u29 := hq9 wx hSw
    go_simp
    try with_reducible rfl
   try simp only [Act.put, La1, La2, La3]
   refine tk (i := 6) (oi := ⟨some 42, .binOp .lss 3 (.tmp 36) (.tmp 41) 3, 4, "ref.go:120", #[⟨0, .data⟩, ⟨5, .data⟩], none⟩) (v := .bool true) rfl (by kernel_rfl) (fun _ _ _ h => h) (Or.inl ⟨by rfl, ?_⟩) (by assumption) ?_
   ·
    intro wx hSw
    go_simp
    try with_reducible rfl
   try simp only [Act.put, La1, La2, La3]
   refine tk (i := 7) (oi := ⟨some 43, .move (.tmp 42), 4, "ref.go:120", #[⟨6, .data⟩], none⟩) (v := .bool true) rfl (by kernel_rfl) (fun _ _ _ h => h) (Or.inl ⟨by rfl, ?_⟩) (by assumption) ?_
   ·
    intro wx hSw
    go_simp
    try with_reducible rfl
   try simp only [Act.put, La1, La2, La3]
   refine tk (i := 8) (oi := ⟨some 44, .move (.tmp 0), 27, "ref.go:120", #[⟨7, .guard⟩], some (7, true)⟩) (v := .pointer (some ⟨K, 0, none⟩)) rfl (by kernel_rfl) (fun _ _ _ h => h) (Or.inl ⟨by rfl, ?_⟩) (by assumption) ?_
   ·
    intro wx hSw
    go_simp
    try with_reducible rfl
   try simp only [Act.put, La1, La2, La3]
   refine tk (i := 9) (oi := ⟨some 45, .nilCheck (.tmp 44), 0, "ref.go:120", #[⟨8, .data⟩, ⟨7, .guard⟩], some (7, true)⟩) (v := .pointer (some ⟨K, 0, none⟩)) rfl (by kernel_rfl) (fun _ _ _ h => h) (Or.inl ⟨by rfl, ?_⟩) (by assumption) ?_
   ·
    intro wx hSw
    go_simp
    try with_reducible rfl
   try simp only [Act.put, La1, La2, La3]
   refine tk (i := 10) (oi := ⟨some 46, .fieldAddr 44 (.tmp 45) 3, 0, "ref.go:120", #[⟨9, .data⟩, ⟨7, .guard⟩], some (7, true)⟩) (v := .pointer (some ⟨K, 3, none⟩)) rfl (by kernel_rfl) (fun _ _ _ h => h) (Or.inl ⟨by rfl, ?_⟩) (by assumption) ?_
   ·
    intro wx hSw
    go_simp
    try with_reducible rfl
   try simp only [Act.put, La1, La2, La3]
   refine tk (i := 11) (oi := ⟨some 47, .load 42 (.tmp 46), 42, "ref.go:120", #[⟨10, .data⟩, ⟨7, .guard⟩], some (7, true)⟩) (v := .slice (some ⟨g, off, none⟩) L.length cc) rfl (by kernel_rfl) (fun _ _ _ h => h) (Or.inl ⟨by rfl, ?_⟩) (by assumption) ?_
   ·
    intro wx hSw
    try dsimp only at hSw
    have u3 := hc3 wx hSw
    have u1 := he1 wx hSw
    have u10 := hp0 wx hSw
    have u11 := hp1 wx hSw
    have u12 := hp2 wx hSw
    have u13 := hp3 wx hSw
    have u14 := hp4 wx hSw
    have u15 := hp5 wx hSw
    have u16 := hp6 wx hSw
    have u17 := hp7 wx hSw
    have u18 := hp8 wx hSw
    have u19 := hp9 wx hSw
    have u20 := hq0 wx hSw
    have u21 := hq1 wx hSw
    have u22 := hq2 wx hSw
    have u23 := hq3 wx hSw
    have u24 := hq4 wx hSw
    have u25 := hq5 wx hSw
    have u26 := hq6 wx hSw
    have u27 := hq7 wx hSw
    have u28 := hq8 wx hSw
    have u29 := hq9 wx hSw
    go_simp
    try with_reducible rfl
   try simp only [Act.put, La1, La2, La3]
   refine tk (i := 12) (oi := ⟨some 48, .move (.tmp 11), 3, "ref.go:120", #[⟨7, .guard⟩], some (7, true)⟩) (v := .int .i64 (k : Int)) rfl (by kernel_rfl) (fun _ _ _ h => h) (Or.inl ⟨by rfl, ?_⟩) (by assumption) ?_
   ·
    intro wx hSw
    go_simp
    try with_reducible rfl
   try simp only [Act.put, La1, La2, La3]
   refine tk (i := 13) (oi := ⟨some 49, .indexAddr 42 (.tmp 47) (.tmp 48), 0, "ref.go:120", #[⟨11, .data⟩, ⟨12, .data⟩, ⟨7, .guard⟩], some (7, true)⟩) (v := .pointer (some ⟨g, off + k * 2, none⟩)) rfl (by kernel_rfl) (fun _ _ _ h => h) (Or.inl ⟨by rfl, ?_⟩) (by assumption) ?_
   ·
    intro wx hSw
    go_simp
    try with_reducible rfl
   try simp only [Act.put, La1, La2, La3]
   refine tk (i := 14) (oi := ⟨some 50, .fieldAddr 64 (.tmp 49) 1, 0, "ref.go:120", #[⟨13, .data⟩, ⟨7, .guard⟩], some (7, true)⟩) (v := .pointer (some ⟨g, off + k * 2 + 1, none⟩)) rfl (by kernel_rfl) (fun _ _ _ h => h) (Or.inl ⟨by rfl, ?_⟩) (by assumption) ?_
   ·
    intro wx hSw
    go_simp
    try with_reducible rfl
   try simp only [Act.put, La1, La2, La3]
   refine tk (i := 15) (oi := ⟨some 51, .load 36 (.tmp 50), 36, "ref.go:120", #[⟨14, .data⟩, ⟨7, .guard⟩], some (7, true)⟩) (v := .slice (some ⟨gx, 0, none⟩) x.ps.length xc) rfl (by kernel_rfl) (fun _ _ _ h => h) (Or.inl ⟨by rfl, ?_⟩) (by assumption) ?_
   ·
    intro wx hSw
    try dsimp only at hSw
    have u3 := hc3 wx hSw
    have u1 := he1 wx hSw
    have u10 := hp0 wx hSw
    have u11 := hp1 wx hSw
    have u12 := hp2 wx hSw
    have u13 := hp3 wx hSw
    have u14 := hp4 wx hSw
    have u15 := hp5 wx hSw
    have u16 := hp6 wx hSw
    have u17 := hp7 wx hSw
    have u18 := hp8 wx hSw
    have u19 := hp9 wx hSw
    have u20 := hq0 wx hSw
    have u21 := hq1 wx hSw
    have u22 := hq2 wx hSw
    have u23 := hq3 wx hSw
    have u24 := hq4 wx hSw
    have u25 := hq5 wx hSw
    have u26 := hq6 wx hSw
    have u27 := hq7 wx hSw
    have u28 := hq8 wx hSw
    have u29 := hq9 wx hSw
    go_simp
    try with_reducible rfl
   try simp only [Act.put, La1, La2, La3]
   refine tk (i := 16) (oi := ⟨some 52, .indexAddr 36 (.tmp 51) (.const (.int .i64 0)), 0, "ref.go:120", #[⟨15, .data⟩, ⟨7, .guard⟩], some (7, true)⟩) (v := .pointer (some ⟨gx, 0, none⟩)) rfl (by kernel_rfl) (fun _ _ _ h => h) (Or.inl ⟨by rfl, ?_⟩) (by assumption) ?_
   ·
    intro wx hSw
    go_simp
    try with_reducible rfl
   try simp only [Act.put, La1, La2, La3]
   refine tk (i := 17) (oi := ⟨some 53, .load 32 (.tmp 52), 32, "ref.go:120", #[⟨16, .data⟩, ⟨7, .guard⟩], some (7, true)⟩) (v := .agg #[.int .i64 q.f, .int .i64 q.t, .int .i64 q.tl, .int .i64 q.pr, .int .i64 q.id, .int .i64 q.fr, .bool q.mo, .bool q.dn, .string q.op, .string q.da]) rfl (by kernel_rfl) (fun _ _ _ h => h) (Or.inl ⟨by rfl, ?_⟩) (by assumption) ?_
   ·
    intro wx hSw
    try dsimp only at hSw
    have u3 := hc3 wx hSw
    have u1 := he1 wx hSw
    have u10 := hp0 wx hSw
    have u11 := hp1 wx hSw
    have u12 := hp2 wx hSw
    have u13 := hp3 wx hSw
    have u14 := hp4 wx hSw
    have u15 := hp5 wx hSw
    have u16 := hp6 wx hSw
    have u17 := hp7 wx hSw
    have u18 := hp8 wx hSw
    have u19 := hp9 wx hSw
    have u20 := hq0 wx hSw
    have u21 := hq1 wx hSw
    have u22 := hq2 wx hSw
    have u23 := hq3 wx hSw
    have u24 := hq4 wx hSw
    have u25 := hq5 wx hSw
    have u26 := hq6 wx hSw
    have u27 := hq7 wx hSw
    have u28 := hq8 wx hSw
    have u29 := hq9 wx hSw
    go_simp
    try with_reducible rfl
   try simp only [Act.put, La1, La2, La3]
   refine tk (i := 18) (oi := ⟨some 54, .load 32 (.tmp 4), 32, "ref.go:120", #[⟨7, .guard⟩], some (7, true)⟩) (v := .agg #[.int .i64 p.f, .int .i64 p.t, .int .i64 p.tl, .int .i64 p.pr, .int .i64 p.id, .int .i64 p.fr, .bool p.mo, .bool p.dn, .string p.op, .string p.da]) rfl (by kernel_rfl) (fun _ _ _ h => h) (Or.inl ⟨by rfl, ?_⟩) (by assumption) ?_
   ·
    intro wx hSw
    try dsimp only at hSw
    have u3 := hc3 wx hSw
    have u1 := he1 wx hSw
    have u10 := hp0 wx hSw
    have u11 := hp1 wx hSw
    have u12 := hp2 wx hSw
    have u13 := hp3 wx hSw
    have u14 := hp4 wx hSw
    have u15 := hp5 wx hSw
    have u16 := hp6 wx hSw
    have u17 := hp7 wx hSw
    have u18 := hp8 wx hSw
    have u19 := hp9 wx hSw
    have u20 := hq0 wx hSw
    have u21 := hq1 wx hSw
    have u22 := hq2 wx hSw
    have u23 := hq3 wx hSw
    have u24 := hq4 wx hSw
    have u25 := hq5 wx hSw
    have u26 := hq6 wx hSw
    have u27 := hq7 wx hSw
    have u28 := hq8 wx hSw
    have u29 := hq9 wx hSw
    go_simp
    try with_reducible rfl
   try simp only [Act.put, La1, La2, La3]
   refine wpAnyH_ready (rs := [19]) (by kernel_rfl) (by simp) ?_
   refine AllReadyH.cons (o := ⟨some 55, .call { callee := .value (.func 26), args := #[.tmp 53, .tmp 54], argTypes := #[32, 32] }, 4, "ref.go:120", #[⟨17, .data⟩, ⟨18, .data⟩, ⟨7, .chain⟩, ⟨7, .guard⟩], some (7, true)⟩) rfl (fun K hK => ?_) AllReadyH.nil
   go_simp
   go_at_call 26
   refine (tog_any q p _).mono ?_
   rintro e wc ⟨rfl, hbc⟩
   rw [hdec]
   first
    | refine hK.out _ _ ?_ (fun hHeld => ?_)
    | (go_wp2_with fail; refine hK.out _ _ ?_ (fun hHeld => ?_))
   ·
    try dsimp only
    exact bt hHeld hbc
   clear hK K
   try simp only [Act.put, La1, La2, La3]
   refine tk (i := 20) (oi := ⟨some 56, .unOp .not 4 (.tmp 55), 4, "ref.go:120", #[⟨19, .data⟩, ⟨7, .guard⟩], some (7, true)⟩) (v := .bool false) rfl (by kernel_rfl) (fun _ _ _ h => h) (Or.inl ⟨by rfl, ?_⟩) (by assumption) ?_
   ·
    intro wx hSw
    go_simp
    try with_reducible rfl
   try simp only [Act.put, La1, La2, La3]
   refine tk (i := 21) (oi := ⟨some 57, .pick (.tmp 43) (.tmp 56) (.const (.bool false)), 4, "ref.go:120", #[⟨7, .data⟩, ⟨20, .data⟩], none⟩) (v := .bool false) rfl (by kernel_rfl) (fun _ _ _ h => h) (Or.inl ⟨by rfl, ?_⟩) (by assumption) ?_
   ·
    intro wx hSw
    go_simp
    try with_reducible rfl
   try simp only [Act.put, La1, La2, La3]
   refine wpAnyH_done (by kernel_rfl) ?_ _
   have hh := hHeld
   clear hHeld
   obtain ⟨wl, hwl⟩ : ∃ z, z = wc := ⟨wc, rfl⟩
   subst hwl
   have hb' := bt hb hh
   have y3 := hc3 _ hh
   have y1 := he1 _ hh
   have y0 := he0 _ hh
   have hne : ((k : Int) == (L.length : Int)) = false := by simp; omega
   have HRL : Hid (RW wl base (.slice (some ⟨gx, 0, none⟩) x.ps.length xc) x.ps) := HRX.out.later hh
   have hPl := (hP3.later hb')
   have hZl := (hZ3.later hb')
   have hKl := (hK3.later hb')
   clear hc3 he1 he0 hp0 hq0 hp1 hq1 hp2 hq2 hp3 hq3 hp4 hq4 hp5 hq5 hp6 hq6 hp7 hq7 hp8 hq8 hp9 hq9
   go_wp2
   go_loopw [13] (fun vi wr => ∃ m : Nat, m ≤ x.ps.length ∧ vi = .int .i64 (m : Int) ∧ Below wl.heap.size wl wr) (fun vi _ => x.ps.length - (intOf vi).toNat)
   case atStart => exact ⟨0, Nat.zero_le _, rfl, Below.refl _ _⟩
   case round =>
    obtain ⟨m, hm, rfl, hbm⟩ := hrel
    by_cases hmlt : m < x.ps.length
    ·
     obtain ⟨y, hy⟩ : ∃ y, x.ps[m]? = some y := ⟨x.ps[m], List.getElem?_eq_getElem hmlt⟩
     have hcm := (HRL.out.later hbm).cells hy
     have z5 := hcm 5 _ rfl
     have z6 := hcm 6 _ rfl
     have z9 := hcm 9 _ rfl
     obtain ⟨⟨a0, a1, a2, a3, a4, a5, a6, a7, a8, a9⟩, -, -⟩ := (hPl.later hbm).ten
     clear a0 a1 a2 a3 a4 a7 a8 hcm
     have hm1 : (m : Int) < (x.ps.length : Int) := by omega
     have hm3 : (0 : Int) ≤ (m : Int) := by omega
     have HS : Hid (sameB y p = false) := HAS.out y (List.mem_of_getElem? hy)
     clear hy
     go_wp2_with fail
     go_upto_region 22 with fail
     by_cases b1 : y.fr = p.fr
     ·
      have b1' : (y.fr == p.fr) = true := by simp [b1]
      by_cases b2 : y.da = p.da
      ·
       have b2' : (y.da.toList == p.da.toList) = true := by rw [b2]; simp
       by_cases b3 : y.mo = p.mo
       · exact absurd HS.out (by simp [sameB, b1, b2, b3])
       ·
        have b3' : (y.mo == p.mo) = false := by simp [b3]
        clear b1 b2 b3
        go_quiet (fail)
        have hbz := bt hbm (below_drewN (Below.refl _ _) nq)
        generalize wr.drewN nq = we at *
        go_wp2
        go_roundw
        case rel => exact ⟨m + 1, by omega, by first | rfl | simp, hbz⟩
        case measure => simp [intOf]; omega
      ·
       have b2' : (y.da.toList == p.da.toList) = false := by rw [tl_eq]; exact decide_eq_false b2
       clear b1 b2
       go_quiet (fail)
       have hbz := bt hbm (below_drewN (Below.refl _ _) nq)
       generalize wr.drewN nq = we at *
       go_wp2
       go_roundw
       case rel => exact ⟨m + 1, by omega, by first | rfl | simp, hbz⟩
       case measure => simp [intOf]; omega
     ·
      have b1' : (y.fr == p.fr) = false := by simp [b1]
      clear b1
      go_quiet (fail)
      have hbz := bt hbm (below_drewN (Below.refl _ _) nq)
      generalize wr.drewN nq = we at *
      go_wp2
      go_roundw
      case rel => exact ⟨m + 1, by omega, by first | rfl | simp, hbz⟩
      case measure => simp [intOf]; omega
    ·
     have hm1 : ¬ (m : Int) < (x.ps.length : Int) := by omega
     have hPr := hPl.later hbm
     have hZr := hZl.later hbm
     have hKr := hKl.later hbm
     have HRr : Hid (RW wr base (.slice (some ⟨gx, 0, none⟩) x.ps.length xc) x.ps) := HRL.out.later hbm
     have z3 := later hbm y3
     have z1 := later hbm y1
     have z0 := later hbm y0
     have hbr := bt hb' hbm
     clear y3 y1 y0 hPl hZl hKl
     go_wp2_with (first | (refine wpList_load_at rfl 32 _ rfl _ w.heap.size #[.int .i64 p.f, .int .i64 p.t, .int .i64 p.tl, .int .i64 p.pr, .int .i64 p.id, .int .i64 p.fr, .bool p.mo, .bool p.dn, .string p.op, .string p.da] _ rfl hPr Try.underlying32 (by kernel_rfl) ?_) | fail)
     refine (rfits_any x.ps p _ base wr HRr.out hplx hp HFX.out).mono ?_
     rw [HFT.out x HLX.out]
     rintro e wf ⟨rfl, lf⟩
     replace hPr := hPr.later lf
     replace hZr := hZr.later lf
     replace hKr := hKr.later lf
     have HRf : Hid (RW wf base (.slice (some ⟨gx, 0, none⟩) x.ps.length xc) x.ps) := HRr.out.later lf
     replace z3 := later lf z3
     replace z1 := later lf z1
     replace z0 := later lf z0
     replace hbr := bt hbr lf
     clear lf hbm
     have HDf : Hid (DR wf base (.slice (some ⟨g, off, none⟩) L.length cc) (L.map DP.e)) := HD3.out.later hbr
     have HRWf : Hid (∀ x ∈ L, RW wf base x.v x.ps) := fun y hy => (HR3.out y hy).later hbr
     have HTf : Hid (Turn (fun k => k = K) w wf) := HT3.out.later hbr
     have hwo := without_any K base ro pa now _ (L.map DP.e) wf hKr HDf.out (one_list HRWf.out) (by rw [List.length_map]; omega) k (by rw [List.length_map]; exact hlt)
     clear z3 z1 z0 hPr
     go_wp2_with fail
     refine hwo.mono ?_
     rintro e wg ⟨v8, rfl, hdo, lg⟩
     rw [map_cut] at hdo
     obtain ⟨p8, n8, c8, h8⟩ := hdo.dr.shape
     subst h8
     have hKg := hKr.later lg
     have hZg := hZr.later lg
     have hsg := lg.size
     have kt := turn_set wg K 3 (.slice p8 n8 c8)
     have hZg2 := hZg.turn kt (by omega)
     have hs9 : w.heap.size + 1 < wf.heap.size := hZr.1
     have HEND : Hid (DX (wg.setCell ⟨K, 3, none⟩ (.slice p8 n8 c8)) K base ro pa now (.slice p8 n8 c8) (L.take k ++ L.drop (k + 1)) ∧ (∀ j, (Value.slice p8 n8 c8).ownBlock = some j → w.heap.size + 2 ≤ j) ∧ Turn (fun k => k = K) w (wg.setCell ⟨K, 3, none⟩ (.slice p8 n8 c8))) := by
      refine ⟨⟨hKg.set 3 _, (hdo.dr.low (by omega)).turn kt (fun j hj _ e => by omega), fun y hy => ((HRWf.out y (cut_mem hy)).later lg).turn kt (fun j hj e => by have := ((HRWf.out y (cut_mem hy)).ge j hj); omega), hkb, by have := kt.size; omega⟩, fun j hj => by have := hdo.ge j hj; omega, (HTf.out.later lg).trans kt⟩
     have k3 := (hKg.2 3 _ rfl).1
     have f3 := (hKg.2 3 _ rfl).2
     clear hwo hdo hKr hZr hZg
     go_upto_region 26 with fail
     clear k3 f3 hKg
     generalize wg.setCell ⟨K, 3, none⟩ (.slice p8 n8 c8) = wk at *
     go_wp2_with (first
      | (refine wpList_store_at rfl 32 _ _ rfl _ (w.heap.size + 1) #[.int .i64 0, .int .i64 0, .int .i64 0, .int .i64 0, .int .i64 0, .int .i64 0, .bool false, .bool false, .string ⟨#[]⟩, .string ⟨#[]⟩] #[.int .i64 0, .int .i64 0, .int .i64 0, .int .i64 0, .int .i64 0, .int .i64 0, .bool false, .bool false, .string ⟨#[]⟩, .string ⟨#[]⟩] rfl rfl hZg2 rfl (by kernel_rfl) oneZ ?_; intro w5 hZ5 ht5))
     have r0 := (hZ5.2 0 _ rfl).1
     have r1 := (hZ5.2 1 _ rfl).1
     have r2 := (hZ5.2 2 _ rfl).1
     have r3 := (hZ5.2 3 _ rfl).1
     have r4 := (hZ5.2 4 _ rfl).1
     have r5 := (hZ5.2 5 _ rfl).1
     have r6 := (hZ5.2 6 _ rfl).1
     have r7 := (hZ5.2 7 _ rfl).1
     have r8 := (hZ5.2 8 _ rfl).1
     have r9 := (hZ5.2 9 _ rfl).1
     have HE : TKB w w5 K base ro pa now L (L.take k ++ L.drop (k + 1)) := tkb_fin (z := w.heap.size + 1) (by omega) (by omega) HEND.out.1 HEND.out.2.1 (fun y hy => Or.inl (cut_mem hy)) (fun y hy j hj => (HOK.out.2 y hy).lt j hj) HEND.out.2.2 (by omega) ht5
     exact bodyPost_ret (v := .tuple #[.agg #[.int .i64 0, .int .i64 0, .int .i64 0, .int .i64 0, .int .i64 0, .int .i64 0, .bool false, .bool false, .string ⟨#[]⟩, .string ⟨#[]⟩], .bool false, .int .i64 120]) (by simp [results, Try.results14, go_sem, r0, r1, r2, r3, r4, r5, r6, r7, r8, r9]) rfl ⟨rfl, HE⟩
end Go.Proofs.Ytcjhniehbafhpaa

namespace Go.Proofs.Ytcjhniehbafhpaa
open Go.RowKit Go.Maps
set_option maxRecDepth 100000
set_option linter.unusedVariables false
set_option linter.unusedSimpArgs false

theorem wpList_b0D {w : World} {ops : Array Oper} {rest : List Oper} {o : Oper} {a : Act} {Q : Exit → Act → World → Prop} (hgd : o.guard = none) (ho : o.op = .buildSlice 42 0 #[]) (base : Nat) (hb : base ≤ w.heap.size)
    (h : ∀ g w', w.heap.size ≤ g → g < w'.heap.size → DO w' base (.slice (some ⟨g, 0, none⟩) 0 0) [] → Below w.heap.size w w' → wpList Try.prog ops Q rest (a.put o.dst (.slice (some ⟨g, 0, none⟩) 0 0)) w') : wpList Try.prog ops Q (o :: rest) a w := by
  refine wpList_plain hgd fun K hK => ?_
  unfold Oper.wp
  simp [execOp, ho, bs0D, Result.andThen]
  exact hK _ _ (h _ _ (Nat.le_refl _) (by simp) (World.ownsRow_lit w #[] 0 hb (by unfold maxLen; omega) rfl) (bel1 _ _))
theorem wpList_appD {w : World} {ops : Array Oper} {rest : List Oper} {o : Oper} {a : Act} {Q : Exit → Act → World → Prop} (hgd : o.guard = none) (s x : Operand) (ho : o.op = .call { callee := .builtin .append, args := #[s, x], argTypes := #[42, 42] }) {base R2 : Nat} {v vs : Value} {A B : List De} (hs : a.eval s = v) (hx : a.eval x = vs) (h1 : DO w base v A) (h2 : DR w R2 vs B) (hone : ∀ e ∈ B, e.2.oneCell' = true) (hb : base ≤ w.heap.size) (hl : A.length + B.length < 1000000)
    (h : ∀ a' n' c' w', DO w' base (.slice a' n' c') (A ++ B) → Turn (fun k => v.ownBlock = some k) w w' → (∀ k, (Value.slice a' n' c').ownBlock = some k → v.ownBlock = some k ∨ w.heap.size ≤ k) → wpList Try.prog ops Q rest (a.put o.dst (.slice a' n' c')) w') : wpList Try.prog ops Q (o :: rest) a w := by
  obtain ⟨v', w', hr, hrw, ht, hk⟩ := append_dr4 h1 h2 hone hb hl o.type
  obtain ⟨a', n', c', rfl⟩ := hrw.dr.shape
  refine wpList_plain hgd fun K hK => ?_
  unfold Oper.wp execOp
  simp only [ho, resolve, invoke, builtin, Sem.run_bind, Sem.run_pure, Result.andThen_ok, List.map_toArray, List.map_cons, List.map_nil, hs, hx, hr]
  exact hK _ _ (h a' n' c' w' hrw ht hk)
theorem DO.there {w : World} {base : Nat} {v : Value} {L : List De} (h : DO w base v L) (hn : L ≠ []) : ∃ g c, v = .slice (some ⟨g, 0, none⟩) L.length c ∧ L.length ≤ c ∧ base ≤ g ∧ g < w.heap.size ∧ ∀ k, k < L.length → w.there g (k * 2) 2 := by
  rcases h.2 with ⟨rfl, h0⟩ | ⟨g, cap, cur, rfl, hg, hb, h1, h2, h3, h4⟩
  · exact absurd (List.length_eq_zero_iff.1 h0) hn
  · refine ⟨g, cap, rfl, h1, hg, (Array.getElem?_eq_some_iff.1 hb).1, fun k hk j hj => ⟨?_, ?_⟩⟩
    · have hlt : k * 2 + j < cur.size := by omega
      simp [World.cell?, hb, hlt]
    · simp [World.frozen?, hb]
theorem DO.set {w : World} {base g c : Nat} {L : List De} (h : DO w base (.slice (some ⟨g, 0, none⟩) L.length c) L) {k : Nat} (hk : k < L.length) (ht : w.there g (k * 2) 2) (e : De) : DR (w.setCells g (k * 2) [.int .i64 e.1, e.2]) base (.slice (some ⟨g, 0, none⟩) L.length c) (L.set k e) := by
  rcases h.dr with ⟨h1, -⟩ | ⟨g', off, c', h1, h2, h3, h4, h5⟩
  · cases h1
  · injection h1 with e1 e2 e3
    injection e1 with e1
    injection e1 with e1 e4
    subst e1 e4 e3
    refine Or.inr ⟨g, 0, c, by rw [List.length_set], by rw [List.length_set]; exact h2, h3, by rw [size_setCells]; exact h4, fun i x hx => ?_⟩
    rw [List.getElem?_set] at hx
    by_cases hik : k = i
    · subst hik
      rw [if_pos rfl, if_pos hk] at hx
      injection hx with hx
      subst hx
      have hs := World.rangeAt_setCells_same w g (k * 2) [.int .i64 e.1, e.2] ht
      rw [Nat.zero_add]
      exact ⟨hs 0 _ rfl, hs 1 _ rfl⟩
    · rw [if_neg hik] at hx
      obtain ⟨c0, c1⟩ := h5 i x hx
      have hr : w.rangeAt g (i * 2) [.int .i64 x.1, x.2] := fun j u hu => by
        rw [Nat.zero_add] at c0 c1
        match j, hu with
        | 0, hu => simp at hu; rw [← hu]; exact c0
        | 1, hu => simp at hu; rw [← hu]; exact c1
      have := World.rangeAt_setCells_apart hr g (k * 2) [.int .i64 e.1, e.2] (by simp; omega)
      rw [Nat.zero_add]
      exact ⟨this 0 _ rfl, this 1 _ rfl⟩
end Go.Proofs.Ytcjhniehbafhpaa

namespace Go.Proofs.Ytcjhniehbafhpaa
open Go.RowKit Go.Maps
set_option maxRecDepth 100000
set_option linter.unusedVariables false
set_option linter.unusedSimpArgs false

theorem DX.later {w w' : World} {K base : Nat} {ro pa la : Int} {v : Value} {L : List DP} (h : DX w K base ro pa la v L) (hb : Below w.heap.size w w') : DX w' K base ro pa la v L := h.turn (S := fun _ => False) (Turn.of_below hb) (fun _ _ h => h)
theorem cut_set : ∀ (L : List DP) (k : Nat) (y : DP), (L.set k y).take k ++ (L.set k y).drop (k + 1) = L.take k ++ L.drop (k + 1)
  | [], k, y => by simp
  | a :: r, 0, y => by simp
  | a :: r, k + 1, y => by
    have := cut_set r k y
    simpa using this
theorem DR.elem {w : World} {base g n c : Nat} {L : List De} (h : DR w base (.slice (some ⟨g, 0, none⟩) n c) L) {k : Nat} {e : De} (he : L[k]? = some e) : w.cell? ⟨g, k * 2, none⟩ = some (.int .i64 e.1) ∧ w.cell? ⟨g, k * 2 + 1, none⟩ = some e.2 := by
  rcases h with ⟨h1, -⟩ | ⟨g', off, c', h1, h2, h3, h4, h5⟩
  · cases h1
  · injection h1 with e1 e2 e3
    injection e1 with e1
    injection e1 with e1 e4
    subst e1 e4
    have := h5 k e he
    rwa [Nat.zero_add] at this
theorem hone_head (q : Pk) (d : ByteArray) : (#[.int .i64 q.f, .int .i64 q.t, .int .i64 q.tl, .int .i64 q.pr, .int .i64 q.id, .int .i64 q.fr, .bool false, .bool q.dn, .string q.op, .string d] : Array Value).all (·.oneCell') = true := by simp [Value.oneCell']
abbrev FP (T : List Pk) (w w' : World) (e : Ending) (K base : Nat) (ro pa now : Int) (L : List DP) (L1 : Value → List DP) (L0 : List DP) : Prop :=
  ∃ d : ByteArray, Ch T d ∧ (∀ q ∈ T, goesOn d.size q = false) ∧
    ((∃ q, firstL T = some q ∧ decide ((d.size : Int) = lastE T (-1)) = true ∧ e = .returned (.tuple #[.agg #[.int .i64 q.f, .int .i64 q.t, .int .i64 q.tl, .int .i64 q.pr, .int .i64 q.id, .int .i64 q.fr, .bool false, .bool q.dn, .string q.op, .string d], .bool true, .int .i64 0]) ∧ TKB w w' K base ro pa now L L0) ∨
     ((firstL T = none ∨ decide ((d.size : Int) = lastE T (-1)) = false) ∧ e = .returned (.tuple #[.agg #[.int .i64 0, .int .i64 0, .int .i64 0, .int .i64 0, .int .i64 0, .int .i64 0, .bool false, .bool false, .string ⟨#[]⟩, .string ⟨#[]⟩], .bool false, .int .i64 0]) ∧ ∃ vx, TKB w w' K base ro pa now L (L1 vx)))
end Go.Proofs.Ytcjhniehbafhpaa

namespace Go.Proofs.Ytcjhniehbafhpaa
open Go.RowKit Go.Maps
set_option maxRecDepth 100000
set_option linter.unusedVariables false
set_option linter.unusedSimpArgs false

def Pk.full (p : Pk) : Prop := p.mo = true → 0 < p.da.size
theorem rfit_clash {x p : Pk} (hx : x.full) (hp : p.full) : rfitB x p = !clashB p x := by
  unfold Pk.full at hx hp
  unfold rfitB rovB rpaB clashB ovB pastB Pk.en Pk.st
  generalize x.da.size = xs at *
  generalize p.da.size = pz at *
  generalize x.fr = xf at *
  generalize p.fr = pf at *
  generalize x.mo = xm at *
  generalize p.mo = pm at *
  cases xm <;> cases pm <;> simp at hx hp <;> rw [Bool.eq_iff_iff] <;> simp only [Bool.and_eq_true, Bool.or_eq_true, Bool.not_eq_true', Bool.and_eq_false_iff, Bool.or_eq_false_iff, decide_eq_true_eq, decide_eq_false_iff_not, Bool.not_true, Bool.not_false, Bool.false_eq_true, Bool.true_eq_false, true_and, false_and, and_true, true_or, false_or, or_false, or_true, ne_eq] <;> omega
theorem fits_same {ps : List Pk} {p : Pk} (hp : p.full) (hs : ∀ x ∈ ps, x.full) : rfitsB ps p = fitsL ps p := by
  unfold rfitsB fitsL
  have : ps.all (fun x => rfitB x p) = !ps.any (clashB p) := by
    rw [Bool.eq_iff_iff]
    simp only [List.all_eq_true, Bool.not_eq_true', List.any_eq_false]
    constructor
    · intro h x hx
      have := h x hx
      rw [rfit_clash (hs x hx) hp] at this
      simpa using this
    · intro h x hx
      rw [rfit_clash (hs x hx) hp]
      have := h x hx
      simpa using this
  rw [this, Bool.and_comm (decide (ps.length < 64))]
theorem fits_perm {ps qs : List Pk} {p : Pk} (h : ps.Perm qs) : fitsL ps p = fitsL qs p := by
  unfold fitsL
  rw [h.length_eq]
  congr 2
  rw [Bool.eq_iff_iff, List.any_eq_true, List.any_eq_true]
  exact ⟨fun ⟨x, hx, e⟩ => ⟨x, h.mem_iff.1 hx, e⟩, fun ⟨x, hx, e⟩ => ⟨x, h.mem_iff.2 hx, e⟩⟩
end Go.Proofs.Ytcjhniehbafhpaa
