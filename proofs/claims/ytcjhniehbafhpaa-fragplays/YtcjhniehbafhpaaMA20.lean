/- the texts Jn, in part, merged by program -/
import Derived.Test.YtcjhniehbafhpaaProg
import Derived.Test.YtcjhniehbafhpaaRows
import Derived.Deep.QuietTactic
import Derived.BigQuiet
import Derived.Deep.Cut
import Derived.Deep.CutRange
import Derived.WalkKit
import Derived.WalkSpells
import Derived.Laws.OwnMore
import Derived.Maps.RangeWalk
import Derived.Maps.OwnSet
import Derived.Maps.Ext
import Derived.Maps.Keyed
import Derived.DeepKeys4
import Derived.WalkSmall
import Derived.Deep.MidRow
import Derived.Deep.RegionWith
import Derived.OwnWalk
import Derived.Laws.CopyRow
import Derived.OrdersHeld
import Derived.Shelf.Spec.SlicesInsert
import Derived.Lib.AppendZerosOnto
import Derived.Maps.AppendAt
import Derived.Lib.Overlaps
import Derived.Shelf.Strings.BuilderK
import Derived.Laws.AppendOwn
import Derived.Laws.AppendOwnNone
import Derived.Carry
import Derived.Shelf.SlSortCmp.WholeK
import Derived.Great.BuildSlice
import Derived.Shelf.SlSortCmp.NoneTotal
import Derived.Deep.RegionHeld3
import Derived.LoopN
import Derived.Test.YtcjhniehbafhpaaMA01
import Derived.Test.YtcjhniehbafhpaaMA02
import Derived.Test.YtcjhniehbafhpaaMA03
import Derived.Test.YtcjhniehbafhpaaMA04
import Derived.Test.YtcjhniehbafhpaaMA05
import Derived.Test.YtcjhniehbafhpaaMA06
import Derived.Test.YtcjhniehbafhpaaMA07
import Derived.Test.YtcjhniehbafhpaaMA08
import Derived.Test.YtcjhniehbafhpaaMA09
import Derived.Test.YtcjhniehbafhpaaMA10
import Derived.Test.YtcjhniehbafhpaaMA11
import Derived.Test.YtcjhniehbafhpaaMA12
import Derived.Test.YtcjhniehbafhpaaMA13
import Derived.Test.YtcjhniehbafhpaaMA15
import Derived.Test.YtcjhniehbafhpaaMA16
import Derived.Test.YtcjhniehbafhpaaMA17
namespace Go.Proofs.Ytcjhniehbafhpaa
open Go.RowKit Go.Maps
set_option maxRecDepth 100000
set_option linter.unusedVariables false
set_option linter.unusedSimpArgs false

set_option maxHeartbeats 16000000 in
theorem rtake_fit (p : Pk) (hmay : p.may = true) {w : World} {K base : Nat} {ro pa la : Int} {v : Value} {L : List DP} (h : DX w K base ro pa la v L) (now : Int) (hn1 : la ≤ now) (hn2 : now ≤ 1099511627776) (hwh : wholeB p.fr p.mo = false) (hll : L.length ≤ 64) (i : Nat) (hil : i < L.length) (hno : ∀ k x, k < i → L[k]? = some x → ∃ q, x.ps[0]? = some q ∧ mk q ≠ mk p) (hye : ∀ x, L[i]? = some x → ∃ q, x.ps[0]? = some q ∧ mk q = mk p) (hpl : ∀ x ∈ L, x.ps.length ≤ 1000) (hfi : ∀ x ∈ L, ∀ q ∈ x.ps, q.Fine) (hhas : ∀ x, L[i]? = some x → ∀ q ∈ x.ps, sameB q p = false) (hfit : ∀ x, L[i]? = some x → rfitsB x.ps p = true) (xx : DP) (hxx : L[i]? = some xx) :
  Calls Try.prog 14 #[.pointer (some ⟨K, 0, none⟩), .agg #[.int .i64 p.f, .int .i64 p.t, .int .i64 p.tl, .int .i64 p.pr, .int .i64 p.id, .int .i64 p.fr, .bool p.mo, .bool p.dn, .string p.op, .string p.da], .int .i64 now] w fun e w' => FP (xx.ps ++ [p]) w w' e K base ro pa now L (fun vx => L.set i ⟨xx.at_, vx, xx.ps ++ [p]⟩) (L.take i ++ L.drop (i + 1)) := by
 have HFT : Hid (∀ x, L[i]? = some x → rfitsB x.ps p = true) := hfit
 have HXX : Hid (L[i]? = some xx) := hxx
 clear hfit hxx
 have HNO : Hid (∀ k x, k < i → L[k]? = some x → ∃ q, x.ps[0]? = some q ∧ mk q ≠ mk p) := hno
 have HYE : Hid (∀ x, L[i]? = some x → ∃ q, x.ps[0]? = some q ∧ mk q = mk p) := hye
 have HPL : Hid (∀ x ∈ L, x.ps.length ≤ 1000) := hpl
 have HFI : Hid (∀ x ∈ L, ∀ q ∈ x.ps, q.Fine) := hfi
 have HHA : Hid (∀ x, L[i]? = some x → ∀ q ∈ x.ps, sameB q p = false) := hhas
 clear hno hye hpl hhas hfi
 have hp := may_fine hmay
 have ho : p.op.size ≤ 1125899906842624 := by have := hp.ol; omega
 have hd : p.da.size ≤ 1125899906842624 := by have := hp.dl; omega
 have hPb := (At.box w #[.int .i64 p.f, .int .i64 p.t, .int .i64 p.tl, .int .i64 p.pr, .int .i64 p.id, .int .i64 p.fr, .bool p.mo, .bool p.dn, .string p.op, .string p.da] 32).later (bel1 _ (.cells #[.int .i64 0, .int .i64 0, .int .i64 0, .int .i64 0, .int .i64 0, .int .i64 0, .bool false, .bool false, .string ⟨#[]⟩, .string ⟨#[]⟩] 32))
 have hZb := At.box2 w (.cells #[.int .i64 p.f, .int .i64 p.t, .int .i64 p.tl, .int .i64 p.pr, .int .i64 p.id, .int .i64 p.fr, .bool p.mo, .bool p.dn, .string p.op, .string p.da] 32) #[.int .i64 0, .int .i64 0, .int .i64 0, .int .i64 0, .int .i64 0, .int .i64 0, .bool false, .bool false, .string ⟨#[]⟩, .string ⟨#[]⟩] 32
 have hl0 := bt (bel1 w (.cells #[.int .i64 p.f, .int .i64 p.t, .int .i64 p.tl, .int .i64 p.pr, .int .i64 p.id, .int .i64 p.fr, .bool p.mo, .bool p.dn, .string p.op, .string p.da] 32)) (bel1 _ (.cells #[.int .i64 0, .int .i64 0, .int .i64 0, .int .i64 0, .int .i64 0, .int .i64 0, .bool false, .bool false, .string ⟨#[]⟩, .string ⟨#[]⟩] 32))
 have hK := h.box
 have hT := h.list
 have hbw := h.bw
 have hkb := h.kb
 have HOK : Hid (DR w base v (L.map DP.e) ∧ ∀ x ∈ L, RW w base x.v x.ps) := ⟨hT, h.ok⟩
 obtain ⟨pp, n, cc, hv⟩ := hT.shape
 have hnl : n = L.length := by
  rcases hT with ⟨h1, h2⟩ | ⟨g, off, c, h1, -⟩
  ·
   rw [hv] at h1
   injection h1 with _ h1
   rw [h1, ← List.length_map (f := DP.e), h2]
   rfl
  ·
   rw [hv] at h1
   injection h1 with _ h1
   rw [h1, List.length_map]
 subst hnl
 subst hv
 replace hK := hK.later hl0
 clear h hT
 go_enter Try.func14, Try.ntmps14
 go_upto_region 1 with fail
 generalize (w.alloc (.cells #[.int .i64 p.f, .int .i64 p.t, .int .i64 p.tl, .int .i64 p.pr, .int .i64 p.id, .int .i64 p.fr, .bool p.mo, .bool p.dn, .string p.op, .string p.da] 32)).alloc (.cells #[.int .i64 0, .int .i64 0, .int .i64 0, .int .i64 0, .int .i64 0, .int .i64 0, .bool false, .bool false, .string ⟨#[]⟩, .string ⟨#[]⟩] 32) = W0 at *
 go_wp2_with (first | (refine wpList_load_at rfl 32 _ rfl _ w.heap.size #[.int .i64 p.f, .int .i64 p.t, .int .i64 p.tl, .int .i64 p.pr, .int .i64 p.id, .int .i64 p.fr, .bool p.mo, .bool p.dn, .string p.op, .string p.da] _ rfl hPb Try.underlying32 (by kernel_rfl) ?_) | fail)
 refine (rchk_t (dn := p.dn) hmay _ ho hd).mono ?_
 rintro e w1 ⟨rfl, l1⟩
 replace hZb := hZb.later l1
 replace hl0 := bt hl0 l1
 replace hK := hK.later l1
 replace hPb := hPb.later l1
 clear l1
 go_wp2_with fail
 refine (rtime_t K ro pa la now _ w1 hK hn1 hn2).mono ?_
 rintro e w2 ⟨rfl, hK2, ht2⟩
 have hs0 := hl0.size
 have hP2 := hPb.turn ht2 (fun e => by omega)
 have hZ2 := hZb.turn ht2 (fun e => by omega)
 have HT2 : Hid (Turn (fun k => k = K) w w2) := ((Turn.of_below (S := fun k => k = K) hl0)).trans ht2
 clear hPb hZb hK ht2 hl0
 go_wp2_with (first | (refine wpList_load_at rfl 32 _ rfl _ w.heap.size #[.int .i64 p.f, .int .i64 p.t, .int .i64 p.tl, .int .i64 p.pr, .int .i64 p.id, .int .i64 p.fr, .bool p.mo, .bool p.dn, .string p.op, .string p.da] _ rfl hP2 Try.underlying32 (by kernel_rfl) ?_) | fail)
 refine (rwhl_any p.f p.t p.tl p.pr p.id p.fr p.mo p.dn p.op p.da w2).mono ?_
 rw [hwh]
 rintro e w3 ⟨rfl, l3⟩
 have hP3 := hP2.later l3
 have hZ3 := hZ2.later l3
 have hK3 := hK2.later l3
 have ht3 := HT2.out.later l3
 have HT3 : Hid (Turn (fun k => k = K) w w3) := ht3
 have HD3 : Hid (DR w3 base (.slice pp L.length cc) (L.map DP.e)) := HOK.out.1.turn ht3 (fun k hk _ e => by omega)
 have HR3 : Hid (∀ x ∈ L, RW w3 base x.v x.ps) := fun x hx => (HOK.out.2 x hx).turn ht3 (fun k hk e => by have := (HOK.out.2 x hx).ge k hk; omega)
 have hs3 := ht3.size
 have hs4 : w.heap.size + 1 < w3.heap.size := hZ3.1
 clear l3 hP2 hZ2 HT2 hK2 ht3
 have hli : (L.length : Int) ≤ 64 := by omega
 go_wp2
 go_loopw [11] (fun vi wr => ∃ k : Nat, k ≤ i ∧ vi = .int .i64 (k : Int) ∧ Below w3.heap.size w3 wr) (fun vi _ => i - (intOf vi).toNat)
 case atStart => exact ⟨0, Nat.zero_le _, rfl, Below.refl _ _⟩
 case round =>
  obtain ⟨k, hk, rfl, hb⟩ := hrel
  have hlt : k < L.length := by omega
  by_cases hki : k < i
  ·
   skip
   obtain ⟨x, hx⟩ : ∃ x, L[k]? = some x := ⟨L[k], List.getElem?_eq_getElem hlt⟩
   have hxl := List.mem_of_getElem? hx
   obtain ⟨q, hq, hmk⟩ := HNO.out k x hki hx
   have hrow := (HR3.out x hxl).later hb
   obtain ⟨gx, xc, hxv, hcl⟩ : ∃ gx xc, x.v = .slice (some ⟨gx, 0, none⟩) x.ps.length xc ∧ ∀ j u, q.L[j]? = some u → wr.cell? ⟨gx, j, none⟩ = some u := by
    obtain ⟨g, c', cur, hv, -⟩ := hrow.real (fun e => by rw [e] at hq; cases hq)
    refine ⟨g, c', hv, fun j u hu => ?_⟩
    rw [hv] at hrow
    have := hrow.cells hq j u hu
    simpa using this
   obtain ⟨g, off, rfl, hgw, e1⟩ : ∃ g off, pp = some ⟨g, off, none⟩ ∧ g < w3.heap.size ∧ w3.cell? ⟨g, off + k * 2 + 1, none⟩ = some x.v := by
    rcases HD3.out with ⟨-, h2⟩ | ⟨g, off, c, h1, -, -, h3, h4⟩
    · rw [List.map_eq_nil_iff] at h2; rw [h2] at hlt; exact absurd hlt (Nat.not_lt_zero _)
    ·
     injection h1 with h1
     have := h4 k x.e (by rw [List.getElem?_map, hx]; rfl)
     exact ⟨g, off, h1, h3, this.2⟩
   rw [hxv] at e1
   replace e1 := later hb e1
   clear hxv hrow
   have hKr := hK3.later hb
   have hPr := hP3.later hb
   obtain ⟨⟨a0, a1, a2, a3, a4, a5, a6, a7, a8, a9⟩, -, -⟩ := hPr.ten
   have c3 := (hKr.2 3 _ rfl).1
   have hc3 : ∀ wx, Below wr.heap.size wr wx → wx.cell? ⟨K, 3, none⟩ = some (.slice (some ⟨g, off, none⟩) L.length cc) := fun wx h => later h c3
   have he1 : ∀ wx, Below wr.heap.size wr wx → wx.cell? ⟨g, off + k * 2 + 1, none⟩ = some (.slice (some ⟨gx, 0, none⟩) x.ps.length xc) := fun wx h => later h e1
   have hp0 := fun wx (h : Below wr.heap.size wr wx) => later h a0
   have hp1 := fun wx (h : Below wr.heap.size wr wx) => later h a1
   have hp2 := fun wx (h : Below wr.heap.size wr wx) => later h a2
   have hp3 := fun wx (h : Below wr.heap.size wr wx) => later h a3
   have hp4 := fun wx (h : Below wr.heap.size wr wx) => later h a4
   have hp5 := fun wx (h : Below wr.heap.size wr wx) => later h a5
   have hp6 := fun wx (h : Below wr.heap.size wr wx) => later h a6
   have hp7 := fun wx (h : Below wr.heap.size wr wx) => later h a7
   have hp8 := fun wx (h : Below wr.heap.size wr wx) => later h a8
   have hp9 := fun wx (h : Below wr.heap.size wr wx) => later h a9
   have hq0 := fun wx (h : Below wr.heap.size wr wx) => later h (hcl 0 _ rfl)
   have hq1 := fun wx (h : Below wr.heap.size wr wx) => later h (hcl 1 _ rfl)
   have hq2 := fun wx (h : Below wr.heap.size wr wx) => later h (hcl 2 _ rfl)
   have hq3 := fun wx (h : Below wr.heap.size wr wx) => later h (hcl 3 _ rfl)
   have hq4 := fun wx (h : Below wr.heap.size wr wx) => later h (hcl 4 _ rfl)
   have hq5 := fun wx (h : Below wr.heap.size wr wx) => later h (hcl 5 _ rfl)
   have hq6 := fun wx (h : Below wr.heap.size wr wx) => later h (hcl 6 _ rfl)
   have hq7 := fun wx (h : Below wr.heap.size wr wx) => later h (hcl 7 _ rfl)
   have hq8 := fun wx (h : Below wr.heap.size wr wx) => later h (hcl 8 _ rfl)
   have hq9 := fun wx (h : Below wr.heap.size wr wx) => later h (hcl 9 _ rfl)
   have hk1 : (k : Int) < (L.length : Int) := by omega
   have hk3 : (0 : Int) ≤ (k : Int) := by omega
   have hxl0 : 0 < x.ps.length := by
    cases hps : x.ps with
    | nil => rw [hps] at hq; cases hq
    | cons _ _ => simp
   have hxl1 : (0 : Int) < (x.ps.length : Int) := by omega
   clear hx hxl hcl c3 e1 hKr hPr a0 a1 a2 a3 a4 a5 a6 a7 a8 a9
   have hdec : decide (mk q = mk p) = false := decide_eq_false hmk
   clear hmk hq
   go_upto_region 10 with fail
   refine wp_region_held_drew (S := (fun W => Below wr.heap.size wr W)) (by kernel_rfl) ?_ (fun hHeld => ?_)
   · first | exact (Below.refl _ _).drew | assumption
   refine tk (i := 0) (oi := ⟨some 36, .move (.tmp 11), 3, "ref.go:120", #[], none⟩) (v := .int .i64 (k : Int)) rfl (by kernel_rfl) (fun _ _ _ h => h) (Or.inl ⟨by rfl, ?_⟩) (by assumption) ?_
   ·
    intro wx hSw
    go_simp
    try with_reducible rfl
   try simp only [Act.put, La1, La2, La3]
   refine tk (i := 1) (oi := ⟨some 37, .move (.tmp 0), 27, "ref.go:120", #[], none⟩) (v := .pointer (some ⟨K, 0, none⟩)) rfl (by kernel_rfl) (fun _ _ _ h => h) (Or.inl ⟨by rfl, ?_⟩) (by assumption) ?_
   ·
    intro wx hSw
    go_simp
    try with_reducible rfl
   try simp only [Act.put, La1, La2, La3]
   refine tk (i := 2) (oi := ⟨some 38, .nilCheck (.tmp 37), 0, "ref.go:120", #[⟨1, .data⟩], none⟩) (v := .pointer (some ⟨K, 0, none⟩)) rfl (by kernel_rfl) (fun _ _ _ h => h) (Or.inl ⟨by rfl, ?_⟩) (by assumption) ?_
   ·
    intro wx hSw
    go_simp
    try with_reducible rfl
   try simp only [Act.put, La1, La2, La3]
   refine tk (i := 3) (oi := ⟨some 39, .fieldAddr 44 (.tmp 38) 3, 0, "ref.go:120", #[⟨2, .data⟩], none⟩) (v := .pointer (some ⟨K, 3, none⟩)) rfl (by kernel_rfl) (fun _ _ _ h => h) (Or.inl ⟨by rfl, ?_⟩) (by assumption) ?_
   ·
    intro wx hSw
    go_simp
    try with_reducible rfl
   try simp only [Act.put, La1, La2, La3]
   refine tk (i := 4) (oi := ⟨some 40, .load 42 (.tmp 39), 42, "ref.go:120", #[⟨3, .data⟩], none⟩) (v := .slice (some ⟨g, off, none⟩) L.length cc) rfl (by kernel_rfl) (fun _ _ _ h => h) (Or.inl ⟨by rfl, ?_⟩) (by assumption) ?_
   ·
    intro wx hSw
    try dsimp only at hSw
    have u3 := hc3 wx hSw
    have u1 := he1 wx hSw
    have u10 := hp0 wx hSw
    have u11 := hp1 wx hSw
    have u12 := hp2 wx hSw
    have u13 := hp3 wx hSw
    have u14 := hp4 wx hSw
    have u15 := hp5 wx hSw
    have u16 := hp6 wx hSw
    have u17 := hp7 wx hSw
    have u18 := hp8 wx hSw
    have u19 := hp9 wx hSw
    have u20 := hq0 wx hSw
    have u21 := hq1 wx hSw
    have u22 := hq2 wx hSw
    have u23 := hq3 wx hSw
    have u24 := hq4 wx hSw
    have u25 := hq5 wx hSw
    have u26 := hq6 wx hSw
    have u27 := hq7 wx hSw
    have u28 := hq8 wx hSw
    have u29 := hq9 wx hSw
    go_simp
    try with_reducible rfl
   try simp only [Act.put, La1, La2, La3]
   refine tk (i := 5) (oi := ⟨some 41, .call { callee := .builtin .len, args := #[.tmp 40], argTypes := #[42] }, 3, "ref.go:120", #[⟨4, .data⟩], none⟩) (v := .int .i64 (L.length : Int)) rfl (by kernel_rfl) (fun _ _ _ h => h) (Or.inl ⟨by rfl, ?_⟩) (by assumption) ?_
   ·
    intro wx hSw
    try dsimp only at hSw
    have u3 := hc3 wx hSw
    have u1 := he1 wx hSw
    have u10 := hp0 wx hSw
    have u11 := hp1 wx hSw
    have u12 := hp2 wx hSw
    have u13 := hp3 wx hSw
    have u14 := hp4 wx hSw
    have u15 := hp5 wx hSw
    have u16 := hp6 wx hSw
    have u17 := hp7 wx hSw
    have u18 := hp8 wx hSw
    have u19 := hp9 wx hSw
    have u20 := hq0 wx hSw
    have u21 := hq1 wx hSw
    have u22 := hq2 wx hSw
    have u23 := hq3 wx hSw
    have u24 := hq4 wx hSw
    have u25 := hq5 wx hSw
    have u26 := hq6 wx hSw
    have u27 := hq7 wx hSw
    have u28 := hq8 wx hSw
    have u29 := hq9 wx hSw
    go_simp
    try with_reducible rfl
   try simp only [Act.put, La1, La2, La3]
   refine tk (i := 6) (oi := ⟨some 42, .binOp .lss 3 (.tmp 36) (.tmp 41) 3, 4, "ref.go:120", #[⟨0, .data⟩, ⟨5, .data⟩], none⟩) (v := .bool true) rfl (by kernel_rfl) (fun _ _ _ h => h) (Or.inl ⟨by rfl, ?_⟩) (by assumption) ?_
   ·
    intro wx hSw
    go_simp
    try with_reducible rfl
   try simp only [Act.put, La1, La2, La3]
   refine tk (i := 7) (oi := ⟨some 43, .move (.tmp 42), 4, "ref.go:120", #[⟨6, .data⟩], none⟩) (v := .bool true) rfl (by kernel_rfl) (fun _ _ _ h => h) (Or.inl ⟨by rfl, ?_⟩) (by assumption) ?_
   ·
    intro wx hSw
    go_simp
    try with_reducible rfl
   try simp only [Act.put, La1, La2, La3]
   refine tk (i := 8) (oi := ⟨some 44, .move (.tmp 0), 27, "ref.go:120", #[⟨7, .guard⟩], some (7, true)⟩) (v := .pointer (some ⟨K, 0, none⟩)) rfl (by kernel_rfl) (fun _ _ _ h => h) (Or.inl ⟨by rfl, ?_⟩) (by assumption) ?_
   ·
    intro wx hSw
    go_simp
    try with_reducible rfl
   try simp only [Act.put, La1, La2, La3]
   refine tk (i := 9) (oi := ⟨some 45, .nilCheck (.tmp 44), 0, "ref.go:120", #[⟨8, .data⟩, ⟨7, .guard⟩], some (7, true)⟩) (v := .pointer (some ⟨K, 0, none⟩)) rfl (by kernel_rfl) (fun _ _ _ h => h) (Or.inl ⟨by rfl, ?_⟩) (by assumption) ?_
   ·
    intro wx hSw
    go_simp
    try with_reducible rfl
   try simp only [Act.put, La1, La2, La3]
   refine tk (i := 10) (oi := ⟨some 46, .fieldAddr 44 (.tmp 45) 3, 0, "ref.go:120", #[⟨9, .data⟩, ⟨7, .guard⟩], some (7, true)⟩) (v := .pointer (some ⟨K, 3, none⟩)) rfl (by kernel_rfl) (fun _ _ _ h => h) (Or.inl ⟨by rfl, ?_⟩) (by assumption) ?_
   ·
    intro wx hSw
    go_simp
    try with_reducible rfl
   try simp only [Act.put, La1, La2, La3]
   refine tk (i := 11) (oi := ⟨some 47, .load 42 (.tmp 46), 42, "ref.go:120", #[⟨10, .data⟩, ⟨7, .guard⟩], some (7, true)⟩) (v := .slice (some ⟨g, off, none⟩) L.length cc) rfl (by kernel_rfl) (fun _ _ _ h => h) (Or.inl ⟨by rfl, ?_⟩) (by assumption) ?_
   ·
    intro wx hSw
    try dsimp only at hSw
    have u3 := hc3 wx hSw
    have u1 := he1 wx hSw
    have u10 := hp0 wx hSw
    have u11 := hp1 wx hSw
    have u12 := hp2 wx hSw
    have u13 := hp3 wx hSw
    have u14 := hp4 wx hSw
    have u15 := hp5 wx hSw
    have u16 := hp6 wx hSw
    have u17 := hp7 wx hSw
    have u18 := hp8 wx hSw
    have u19 := hp9 wx hSw
    have u20 := hq0 wx hSw
    have u21 := hq1 wx hSw
    have u22 := hq2 wx hSw
    have u23 := hq3 wx hSw
    have u24 := hq4 wx hSw
    have u25 := hq5 wx hSw
    have u26 := hq6 wx hSw
    have u27 := hq7 wx hSw
    have u28 := hq8 wx hSw
    have u29 := hq9 wx hSw
    go_simp
    try with_reducible rfl
   try simp only [Act.put, La1, La2, La3]
   refine tk (i := 12) (oi := ⟨some 48, .move (.tmp 11), 3, "ref.go:120", #[⟨7, .guard⟩], some (7, true)⟩) (v := .int .i64 (k : Int)) rfl (by kernel_rfl) (fun _ _ _ h => h) (Or.inl ⟨by rfl, ?_⟩) (by assumption) ?_
   ·
    intro wx hSw
    go_simp
    try with_reducible rfl
   try simp only [Act.put, La1, La2, La3]
   refine tk (i := 13) (oi := ⟨some 49, .indexAddr 42 (.tmp 47) (.tmp 48), 0, "ref.go:120", #[⟨11, .data⟩, ⟨12, .data⟩, ⟨7, .guard⟩], some (7, true)⟩) (v := .pointer (some ⟨g, off + k * 2, none⟩)) rfl (by kernel_rfl) (fun _ _ _ h => h) (Or.inl ⟨by rfl, ?_⟩) (by assumption) ?_
   ·
    intro wx hSw
    go_simp
    try with_reducible rfl
   try simp only [Act.put, La1, La2, La3]
   refine tk (i := 14) (oi := ⟨some 50, .fieldAddr 64 (.tmp 49) 1, 0, "ref.go:120", #[⟨13, .data⟩, ⟨7, .guard⟩], some (7, true)⟩) (v := .pointer (some ⟨g, off + k * 2 + 1, none⟩)) rfl (by kernel_rfl) (fun _ _ _ h => h) (Or.inl ⟨by rfl, ?_⟩) (by assumption) ?_
   ·
    intro wx hSw
    go_simp
    try with_reducible rfl
   try simp only [Act.put, La1, La2, La3]
   refine tk (i := 15) (oi := ⟨some 51, .load 36 (.tmp 50), 36, "ref.go:120", #[⟨14, .data⟩, ⟨7, .guard⟩], some (7, true)⟩) (v := .slice (some ⟨gx, 0, none⟩) x.ps.length xc) rfl (by kernel_rfl) (fun _ _ _ h => h) (Or.inl ⟨by rfl, ?_⟩) (by assumption) ?_
   ·
    intro wx hSw
    try dsimp only at hSw
    have u3 := hc3 wx hSw
    have u1 := he1 wx hSw
    have u10 := hp0 wx hSw
    have u11 := hp1 wx hSw
    have u12 := hp2 wx hSw
    have u13 := hp3 wx hSw
    have u14 := hp4 wx hSw
    have u15 := hp5 wx hSw
    have u16 := hp6 wx hSw
    have u17 := hp7 wx hSw
    have u18 := hp8 wx hSw
    have u19 := hp9 wx hSw
    have u20 := hq0 wx hSw
    have u21 := hq1 wx hSw
    have u22 := hq2 wx hSw
    have u23 := hq3 wx hSw
    have u24 := hq4 wx hSw
    have u25 := hq5 wx hSw
    have u26 := hq6 wx hSw
    have u27 := hq7 wx hSw
    have u28 := hq8 wx hSw
    have u29 := hq9 wx hSw
    go_simp
    try with_reducible rfl
   try simp only [Act.put, La1, La2, La3]
   refine tk (i := 16) (oi := ⟨some 52, .indexAddr 36 (.tmp 51) (.const (.int .i64 0)), 0, "ref.go:120", #[⟨15, .data⟩, ⟨7, .guard⟩], some (7, true)⟩) (v := .pointer (some ⟨gx, 0, none⟩)) rfl (by kernel_rfl) (fun _ _ _ h => h) (Or.inl ⟨by rfl, ?_⟩) (by assumption) ?_
   ·
    intro wx hSw
    go_simp
    try with_reducible rfl
   try simp only [Act.put, La1, La2, La3]
   refine tk (i := 17) (oi := ⟨some 53, .load 32 (.tmp 52), 32, "ref.go:120", #[⟨16, .data⟩, ⟨7, .guard⟩], some (7, true)⟩) (v := .agg #[.int .i64 q.f, .int .i64 q.t, .int .i64 q.tl, .int .i64 q.pr, .int .i64 q.id, .int .i64 q.fr, .bool q.mo, .bool q.dn, .string q.op, .string q.da]) rfl (by kernel_rfl) (fun _ _ _ h => h) (Or.inl ⟨by rfl, ?_⟩) (by assumption) ?_
   ·
    intro wx hSw
    try dsimp only at hSw
    have u3 := hc3 wx hSw
    have u1 := he1 wx hSw
    have u10 := hp0 wx hSw
    have u11 := hp1 wx hSw
    have u12 := hp2 wx hSw
    have u13 := hp3 wx hSw
    have u14 := hp4 wx hSw
    have u15 := hp5 wx hSw
    have u16 := hp6 wx hSw
    have u17 := hp7 wx hSw
    have u18 := hp8 wx hSw
    have u19 := hp9 wx hSw
    have u20 := hq0 wx hSw
    have u21 := hq1 wx hSw
    have u22 := hq2 wx hSw
    have u23 := hq3 wx hSw
    have u24 := hq4 wx hSw
    have u25 := hq5 wx hSw
    have u26 := hq6 wx hSw
    have u27 := hq7 wx hSw
    have u28 := hq8 wx hSw
    have u29 := hq9 wx hSw
    go_simp
    try with_reducible rfl
   try simp only [Act.put, La1, La2, La3]
   refine tk (i := 18) (oi := ⟨some 54, .load 32 (.tmp 4), 32, "ref.go:120", #[⟨7, .guard⟩], some (7, true)⟩) (v := .agg #[.int .i64 p.f, .int .i64 p.t, .int .i64 p.tl, .int .i64 p.pr, .int .i64 p.id, .int .i64 p.fr, .bool p.mo, .bool p.dn, .string p.op, .string p.da]) rfl (by kernel_rfl) (fun _ _ _ h => h) (Or.inl ⟨by rfl, ?_⟩) (by assumption) ?_
   ·
    intro wx hSw
    try dsimp only at hSw
    have u3 := hc3 wx hSw
    have u1 := he1 wx hSw
    have u10 := hp0 wx hSw
    have u11 := hp1 wx hSw
    have u12 := hp2 wx hSw
    have u13 := hp3 wx hSw
    have u14 := hp4 wx hSw
    have u15 := hp5 wx hSw
    have u16 := hp6 wx hSw
    have u17 := hp7 wx hSw
    have u18 := hp8 wx hSw
    have u19 := hp9 wx hSw
    have u20 := hq0 wx hSw
    have u21 := hq1 wx hSw
    have u22 := hq2 wx hSw
    have u23 := hq3 wx hSw
    have u24 := hq4 wx hSw
    have u25 := hq5 wx hSw
    have u26 := hq6 wx hSw
    have u27 := hq7 wx hSw
    have u28 := hq8 wx hSw
    have u29 := hq9 wx hSw
    go_simp
    try with_reducible rfl
   try simp only [Act.put, La1, La2, La3]
   refine wpAnyH_ready (rs := [19]) (by kernel_rfl) (by simp) ?_
   refine AllReadyH.cons (o := ⟨some 55, .call { callee := .value (.func 26), args := #[.tmp 53, .tmp 54], argTypes := #[32, 32] }, 4, "ref.go:120", #[⟨17, .data⟩, ⟨18, .data⟩, ⟨7, .chain⟩, ⟨7, .guard⟩], some (7, true)⟩) rfl (fun K hK => ?_) AllReadyH.nil
   go_simp
   go_at_call 26
   refine (tog_any q p _).mono ?_
   rintro e wc ⟨rfl, hbc⟩
   rw [hdec]
   first
    | refine hK.out _ _ ?_ (fun hHeld => ?_)
    | (go_wp2_with fail; refine hK.out _ _ ?_ (fun hHeld => ?_))
   ·
    try dsimp only
    exact bt hHeld hbc
   clear hK K
   try simp only [Act.put, La1, La2, La3]
   refine tk (i := 20) (oi := ⟨some 56, .unOp .not 4 (.tmp 55), 4, "ref.go:120", #[⟨19, .data⟩, ⟨7, .guard⟩], some (7, true)⟩) (v := .bool true) rfl (by kernel_rfl) (fun _ _ _ h => h) (Or.inl ⟨by rfl, ?_⟩) (by assumption) ?_
   ·
    intro wx hSw
    go_simp
    try with_reducible rfl
   try simp only [Act.put, La1, La2, La3]
   refine tk (i := 21) (oi := ⟨some 57, .pick (.tmp 43) (.tmp 56) (.const (.bool false)), 4, "ref.go:120", #[⟨7, .data⟩, ⟨20, .data⟩], none⟩) (v := .bool true) rfl (by kernel_rfl) (fun _ _ _ h => h) (Or.inl ⟨by rfl, ?_⟩) (by assumption) ?_
   ·
    intro wx hSw
    go_simp
    try with_reducible rfl
   try simp only [Act.put, La1, La2, La3]
   refine wpAnyH_done (by kernel_rfl) ?_ _
   have hb' := bt hb hHeld
   clear hHeld
   go_wp2
   go_roundw
   case rel => exact ⟨k + 1, by omega, by first | rfl | simp, hb'⟩
   case measure => simp [intOf]; omega
  ·
   have hkk : k = i := by omega
   subst hkk
   obtain ⟨x, hx⟩ : ∃ x, L[k]? = some x := ⟨L[k], List.getElem?_eq_getElem hlt⟩
   have hxl := List.mem_of_getElem? hx
   obtain ⟨q, hq, hmk⟩ := HYE.out x hx
   have hrow := (HR3.out x hxl).later hb
   obtain ⟨gx, xc, hxv, hcl⟩ : ∃ gx xc, x.v = .slice (some ⟨gx, 0, none⟩) x.ps.length xc ∧ ∀ j u, q.L[j]? = some u → wr.cell? ⟨gx, j, none⟩ = some u := by
    obtain ⟨g, c', cur, hv, -⟩ := hrow.real (fun e => by rw [e] at hq; cases hq)
    refine ⟨g, c', hv, fun j u hu => ?_⟩
    rw [hv] at hrow
    have := hrow.cells hq j u hu
    simpa using this
   obtain ⟨g, off, rfl, hgw, e1⟩ : ∃ g off, pp = some ⟨g, off, none⟩ ∧ g < w3.heap.size ∧ w3.cell? ⟨g, off + k * 2 + 1, none⟩ = some x.v := by
    rcases HD3.out with ⟨-, h2⟩ | ⟨g, off, c, h1, -, -, h3, h4⟩
    · rw [List.map_eq_nil_iff] at h2; rw [h2] at hlt; exact absurd hlt (Nat.not_lt_zero _)
    ·
     injection h1 with h1
     have := h4 k x.e (by rw [List.getElem?_map, hx]; rfl)
     exact ⟨g, off, h1, h3, this.2⟩
   rw [hxv] at e1
   replace e1 := later hb e1
   rw [hxv] at hrow
   clear hxv
   have hKr := hK3.later hb
   have hPr := hP3.later hb
   obtain ⟨⟨a0, a1, a2, a3, a4, a5, a6, a7, a8, a9⟩, -, -⟩ := hPr.ten
   have c3 := (hKr.2 3 _ rfl).1
   have hc3 : ∀ wx, Below wr.heap.size wr wx → wx.cell? ⟨K, 3, none⟩ = some (.slice (some ⟨g, off, none⟩) L.length cc) := fun wx h => later h c3
   have he1 : ∀ wx, Below wr.heap.size wr wx → wx.cell? ⟨g, off + k * 2 + 1, none⟩ = some (.slice (some ⟨gx, 0, none⟩) x.ps.length xc) := fun wx h => later h e1
   have hp0 := fun wx (h : Below wr.heap.size wr wx) => later h a0
   have hp1 := fun wx (h : Below wr.heap.size wr wx) => later h a1
   have hp2 := fun wx (h : Below wr.heap.size wr wx) => later h a2
   have hp3 := fun wx (h : Below wr.heap.size wr wx) => later h a3
   have hp4 := fun wx (h : Below wr.heap.size wr wx) => later h a4
   have hp5 := fun wx (h : Below wr.heap.size wr wx) => later h a5
   have hp6 := fun wx (h : Below wr.heap.size wr wx) => later h a6
   have hp7 := fun wx (h : Below wr.heap.size wr wx) => later h a7
   have hp8 := fun wx (h : Below wr.heap.size wr wx) => later h a8
   have hp9 := fun wx (h : Below wr.heap.size wr wx) => later h a9
   have hq0 := fun wx (h : Below wr.heap.size wr wx) => later h (hcl 0 _ rfl)
   have hq1 := fun wx (h : Below wr.heap.size wr wx) => later h (hcl 1 _ rfl)
   have hq2 := fun wx (h : Below wr.heap.size wr wx) => later h (hcl 2 _ rfl)
   have hq3 := fun wx (h : Below wr.heap.size wr wx) => later h (hcl 3 _ rfl)
   have hq4 := fun wx (h : Below wr.heap.size wr wx) => later h (hcl 4 _ rfl)
   have hq5 := fun wx (h : Below wr.heap.size wr wx) => later h (hcl 5 _ rfl)
   have hq6 := fun wx (h : Below wr.heap.size wr wx) => later h (hcl 6 _ rfl)
   have hq7 := fun wx (h : Below wr.heap.size wr wx) => later h (hcl 7 _ rfl)
   have hq8 := fun wx (h : Below wr.heap.size wr wx) => later h (hcl 8 _ rfl)
   have hq9 := fun wx (h : Below wr.heap.size wr wx) => later h (hcl 9 _ rfl)
   have hk1 : (k : Int) < (L.length : Int) := by omega
   have hk3 : (0 : Int) ≤ (k : Int) := by omega
   have hxl0 : 0 < x.ps.length := by
    cases hps : x.ps with
    | nil => rw [hps] at hq; cases hq
    | cons _ _ => simp
   have hxl1 : (0 : Int) < (x.ps.length : Int) := by omega
   have e0 : w3.cell? ⟨g, off + k * 2, none⟩ = some (.int .i64 x.at_) := by
    rcases HD3.out with ⟨h1, -⟩ | ⟨g', off', c', h1, -, -, -, h4⟩
    · cases h1
    ·
     injection h1 with h1
     injection h1 with h1
     injection h1 with h1 h2
     subst h1 h2
     exact (h4 k x.e (by rw [List.getElem?_map, hx]; rfl)).1
   replace e0 := later hb e0
   have he0 : ∀ wx, Below wr.heap.size wr wx → wx.cell? ⟨g, off + k * 2, none⟩ = some (.int .i64 x.at_) := fun wx h => later h e0
   clear e0 hxl hcl e1 hKr hPr a0 a1 a2 a3 a4 a5 a6 a7 a8 a9
   have hdec : decide (mk q = mk p) = true := decide_eq_true hmk
   have hplx := HPL.out x (List.mem_of_getElem? hx)
   have HFX : Hid (∀ q ∈ x.ps, q.Fine) := HFI.out x (List.mem_of_getElem? hx)
   have HAS : Hid (∀ q ∈ x.ps, sameB q p = false) := HHA.out x hx
   have HRX : Hid (RW wr base (.slice (some ⟨gx, 0, none⟩) x.ps.length xc) x.ps) := hrow
   have HLX : Hid (L[k]? = some x) := hx
   have hx2 : x = xx := Option.some.inj ((HLX.out).symm.trans HXX.out)
   subst hx2
   clear hmk hq hx hrow c3
   go_upto_region 10 with fail
   refine wp_region_held_drew (S := (fun W => Below wr.heap.size wr W)) (by kernel_rfl) ?_ (fun hHeld => ?_)
   · first | exact (Below.refl _ _).drew | assumption
   refine tk (i := 0) (oi := ⟨some 36, .move (.tmp 11), 3, "ref.go:120", #[], none⟩) (v := .int .i64 (k : Int)) rfl (by kernel_rfl) (fun _ _ _ h => h) (Or.inl ⟨by rfl, ?_⟩) (by assumption) ?_
   ·
    intro wx hSw
    go_simp
    try with_reducible rfl
   try simp only [Act.put, La1, La2, La3]
   refine tk (i := 1) (oi := ⟨some 37, .move (.tmp 0), 27, "ref.go:120", #[], none⟩) (v := .pointer (some ⟨K, 0, none⟩)) rfl (by kernel_rfl) (fun _ _ _ h => h) (Or.inl ⟨by rfl, ?_⟩) (by assumption) ?_
   ·
    intro wx hSw
    go_simp
    try with_reducible rfl
   try simp only [Act.put, La1, La2, La3]
   refine tk (i := 2) (oi := ⟨some 38, .nilCheck (.tmp 37), 0, "ref.go:120", #[⟨1, .data⟩], none⟩) (v := .pointer (some ⟨K, 0, none⟩)) rfl (by kernel_rfl) (fun _ _ _ h => h) (Or.inl ⟨by rfl, ?_⟩) (by assumption) ?_
   ·
    intro wx hSw
    go_simp
    try with_reducible rfl
   try simp only [Act.put, La1, La2, La3]
   refine tk (i := 3) (oi := ⟨some 39, .fieldAddr 44 (.tmp 38) 3, 0, "ref.go:120", #[⟨2, .data⟩], none⟩) (v := .pointer (some ⟨K, 3, none⟩)) rfl (by kernel_rfl) (fun _ _ _ h => h) (Or.inl ⟨by rfl, ?_⟩) (by assumption) ?_
   ·
    intro wx hSw
    go_simp
    try with_reducible rfl
   try simp only [Act.put, La1, La2, La3]
   refine tk (i := 4) (oi := ⟨some 40, .load 42 (.tmp 39), 42, "ref.go:120", #[⟨3, .data⟩], none⟩) (v := .slice (some ⟨g, off, none⟩) L.length cc) rfl (by kernel_rfl) (fun _ _ _ h => h) (Or.inl ⟨by rfl, ?_⟩) (by assumption) ?_
   ·
    intro wx hSw
    try dsimp only at hSw
    have u3 := hc3 wx hSw
    have u1 := he1 wx hSw
    have u10 := hp0 wx hSw
    have u11 := hp1 wx hSw
    have u12 := hp2 wx hSw
    have u13 := hp3 wx hSw
    have u14 := hp4 wx hSw
    have u15 := hp5 wx hSw
    have u16 := hp6 wx hSw
    have u17 := hp7 wx hSw
    have u18 := hp8 wx hSw
    have u19 := hp9 wx hSw
    have u20 := hq0 wx hSw
    have u21 := hq1 wx hSw
    have u22 := hq2 wx hSw
    have u23 := hq3 wx hSw
    have u24 := hq4 wx hSw
    have u25 := hq5 wx hSw
    have u26 := hq6 wx hSw
    have u27 := hq7 wx hSw
    have u28 := hq8 wx hSw
    have u29 := hq9 wx hSw
    go_simp
    try with_reducible rfl
   try simp only [Act.put, La1, La2, La3]
   refine tk (i := 5) (oi := ⟨some 41, .call { callee := .builtin .len, args := #[.tmp 40], argTypes := #[42] }, 3, "ref.go:120", #[⟨4, .data⟩], none⟩) (v := .int .i64 (L.length : Int)) rfl (by kernel_rfl) (fun _ _ _ h => h) (Or.inl ⟨by rfl, ?_⟩) (by assumption) ?_
   ·
    intro wx hSw
    try dsimp only at hSw
    have u3 := hc3 wx hSw
    have u1 := he1 wx hSw
    have u10 := hp0 wx hSw
    have u11 := hp1 wx hSw
    have u12 := hp2 wx hSw
    have u13 := hp3 wx hSw
    have u14 := hp4 wx hSw
    have u15 := hp5 wx hSw
    have u16 := hp6 wx hSw
    have u17 := hp7 wx hSw
    have u18 := hp8 wx hSw
    have u19 := hp9 wx hSw
    have u20 := hq0 wx hSw
    have u21 := hq1 wx hSw
    have u22 := hq2 wx hSw
    have u23 := hq3 wx hSw
    have u24 := hq4 wx hSw
    have u25 := hq5 wx hSw
    have u26 := hq6 wx hSw
    have u27 := hq7 wx hSw
    have u28 := hq8 wx hSw
    have u29 := hq9 wx hSw
    go_simp
    try with_reducible rfl
   try simp only [Act.put, La1, La2, La3]
   refine tk (i := 6) (oi := ⟨some 42, .binOp .lss 3 (.tmp 36) (.tmp 41) 3, 4, "ref.go:120", #[⟨0, .data⟩, ⟨5, .data⟩], none⟩) (v := .bool true) rfl (by kernel_rfl) (fun _ _ _ h => h) (Or.inl ⟨by rfl, ?_⟩) (by assumption) ?_
   ·
    intro wx hSw
    go_simp
    try with_reducible rfl
   try simp only [Act.put, La1, La2, La3]
   refine tk (i := 7) (oi := ⟨some 43, .move (.tmp 42), 4, "ref.go:120", #[⟨6, .data⟩], none⟩) (v := .bool true) rfl (by kernel_rfl) (fun _ _ _ h => h) (Or.inl ⟨by rfl, ?_⟩) (by assumption) ?_
   ·
    intro wx hSw
    go_simp
    try with_reducible rfl
   try simp only [Act.put, La1, La2, La3]
   refine tk (i := 8) (oi := ⟨some 44, .move (.tmp 0), 27, "ref.go:120", #[⟨7, .guard⟩], some (7, true)⟩) (v := .pointer (some ⟨K, 0, none⟩)) rfl (by kernel_rfl) (fun _ _ _ h => h) (Or.inl ⟨by rfl, ?_⟩) (by assumption) ?_
   ·
    intro wx hSw
    go_simp
    try with_reducible rfl
   try simp only [Act.put, La1, La2, La3]
   refine tk (i := 9) (oi := ⟨some 45, .nilCheck (.tmp 44), 0, "ref.go:120", #[⟨8, .data⟩, ⟨7, .guard⟩], some (7, true)⟩) (v := .pointer (some ⟨K, 0, none⟩)) rfl (by kernel_rfl) (fun _ _ _ h => h) (Or.inl ⟨by rfl, ?_⟩) (by assumption) ?_
   ·
    intro wx hSw
    go_simp
    try with_reducible rfl
   try simp only [Act.put, La1, La2, La3]
   refine tk (i := 10) (oi := ⟨some 46, .fieldAddr 44 (.tmp 45) 3, 0, "ref.go:120", #[⟨9, .data⟩, ⟨7, .guard⟩], some (7, true)⟩) (v := .pointer (some ⟨K, 3, none⟩)) rfl (by kernel_rfl) (fun _ _ _ h => h) (Or.inl ⟨by rfl, ?_⟩) (by assumption) ?_
   ·
    intro wx hSw
    go_simp
    try with_reducible rfl
   try simp only [Act.put, La1, La2, La3]
   refine tk (i := 11) (oi := ⟨some 47, .load 42 (.tmp 46), 42, "ref.go:120", #[⟨10, .data⟩, ⟨7, .guard⟩], some (7, true)⟩) (v := .slice (some ⟨g, off, none⟩) L.length cc) rfl (by kernel_rfl) (fun _ _ _ h => h) (Or.inl ⟨by rfl, ?_⟩) (by assumption) ?_
   ·
    intro wx hSw
    try dsimp only at hSw
    have u3 := hc3 wx hSw
    have u1 := he1 wx hSw
    have u10 := hp0 wx hSw
    have u11 := hp1 wx hSw
    have u12 := hp2 wx hSw
    have u13 := hp3 wx hSw
    have u14 := hp4 wx hSw
    have u15 := hp5 wx hSw
    have u16 := hp6 wx hSw
    have u17 := hp7 wx hSw
    have u18 := hp8 wx hSw
    have u19 := hp9 wx hSw
    have u20 := hq0 wx hSw
    have u21 := hq1 wx hSw
    have u22 := hq2 wx hSw
    have u23 := hq3 wx hSw
    have u24 := hq4 wx hSw
    have u25 := hq5 wx hSw
    have u26 := hq6 wx hSw
    have u27 := hq7 wx hSw
    have u28 := hq8 wx hSw
    have u29 := hq9 wx hSw
    go_simp
    try with_reducible rfl
   try simp only [Act.put, La1, La2, La3]
   refine tk (i := 12) (oi := ⟨some 48, .move (.tmp 11), 3, "ref.go:120", #[⟨7, .guard⟩], some (7, true)⟩) (v := .int .i64 (k : Int)) rfl (by kernel_rfl) (fun _ _ _ h => h) (Or.inl ⟨by rfl, ?_⟩) (by assumption) ?_
   ·
    intro wx hSw
    go_simp
    try with_reducible rfl
   try simp only [Act.put, La1, La2, La3]
   refine tk (i := 13) (oi := ⟨some 49, .indexAddr 42 (.tmp 47) (.tmp 48), 0, "ref.go:120", #[⟨11, .data⟩, ⟨12, .data⟩, ⟨7, .guard⟩], some (7, true)⟩) (v := .pointer (some ⟨g, off + k * 2, none⟩)) rfl (by kernel_rfl) (fun _ _ _ h => h) (Or.inl ⟨by rfl, ?_⟩) (by assumption) ?_
   ·
    intro wx hSw
    go_simp
    try with_reducible rfl
   try simp only [Act.put, La1, La2, La3]
   refine tk (i := 14) (oi := ⟨some 50, .fieldAddr 64 (.tmp 49) 1, 0, "ref.go:120", #[⟨13, .data⟩, ⟨7, .guard⟩], some (7, true)⟩) (v := .pointer (some ⟨g, off + k * 2 + 1, none⟩)) rfl (by kernel_rfl) (fun _ _ _ h => h) (Or.inl ⟨by rfl, ?_⟩) (by assumption) ?_
   ·
    intro wx hSw
    go_simp
    try with_reducible rfl
   try simp only [Act.put, La1, La2, La3]
   refine tk (i := 15) (oi := ⟨some 51, .load 36 (.tmp 50), 36, "ref.go:120", #[⟨14, .data⟩, ⟨7, .guard⟩], some (7, true)⟩) (v := .slice (some ⟨gx, 0, none⟩) x.ps.length xc) rfl (by kernel_rfl) (fun _ _ _ h => h) (Or.inl ⟨by rfl, ?_⟩) (by assumption) ?_
   ·
    intro wx hSw
    try dsimp only at hSw
    have u3 := hc3 wx hSw
    have u1 := he1 wx hSw
    have u10 := hp0 wx hSw
    have u11 := hp1 wx hSw
    have u12 := hp2 wx hSw
    have u13 := hp3 wx hSw
    have u14 := hp4 wx hSw
    have u15 := hp5 wx hSw
    have u16 := hp6 wx hSw
    have u17 := hp7 wx hSw
    have u18 := hp8 wx hSw
    have u19 := hp9 wx hSw
    have u20 := hq0 wx hSw
    have u21 := hq1 wx hSw
    have u22 := hq2 wx hSw
    have u23 := hq3 wx hSw
    have u24 := hq4 wx hSw
    have u25 := hq5 wx hSw
    have u26 := hq6 wx hSw
    have u27 := hq7 wx hSw
    have u28 := hq8 wx hSw
    have u29 := hq9 wx hSw
    go_simp
    try with_reducible rfl
   try simp only [Act.put, La1, La2, La3]
   refine tk (i := 16) (oi := ⟨some 52, .indexAddr 36 (.tmp 51) (.const (.int .i64 0)), 0, "ref.go:120", #[⟨15, .data⟩, ⟨7, .guard⟩], some (7, true)⟩) (v := .pointer (some ⟨gx, 0, none⟩)) rfl (by kernel_rfl) (fun _ _ _ h => h) (Or.inl ⟨by rfl, ?_⟩) (by assumption) ?_
   ·
    intro wx hSw
    go_simp
    try with_reducible rfl
   try simp only [Act.put, La1, La2, La3]
   refine tk (i := 17) (oi := ⟨some 53, .load 32 (.tmp 52), 32, "ref.go:120", #[⟨16, .data⟩, ⟨7, .guard⟩], some (7, true)⟩) (v := .agg #[.int .i64 q.f, .int .i64 q.t, .int .i64 q.tl, .int .i64 q.pr, .int .i64 q.id, .int .i64 q.fr, .bool q.mo, .bool q.dn, .string q.op, .string q.da]) rfl (by kernel_rfl) (fun _ _ _ h => h) (Or.inl ⟨by rfl, ?_⟩) (by assumption) ?_
   ·
    intro wx hSw
    try dsimp only at hSw
    have u3 := hc3 wx hSw
    have u1 := he1 wx hSw
    have u10 := hp0 wx hSw
    have u11 := hp1 wx hSw
    have u12 := hp2 wx hSw
    have u13 := hp3 wx hSw
    have u14 := hp4 wx hSw
    have u15 := hp5 wx hSw
    have u16 := hp6 wx hSw
    have u17 := hp7 wx hSw
    have u18 := hp8 wx hSw
    have u19 := hp9 wx hSw
    have u20 := hq0 wx hSw
    have u21 := hq1 wx hSw
    have u22 := hq2 wx hSw
    have u23 := hq3 wx hSw
    have u24 := hq4 wx hSw
    have u25 := hq5 wx hSw
    have u26 := hq6 wx hSw
    have u27 := hq7 wx hSw
    have u28 := hq8 wx hSw
    have u29 := hq9 wx hSw
    go_simp
    try with_reducible rfl
   try simp only [Act.put, La1, La2, La3]
   refine tk (i := 18) (oi := ⟨some 54, .load 32 (.tmp 4), 32, "ref.go:120", #[⟨7, .guard⟩], some (7, true)⟩) (v := .agg #[.int .i64 p.f, .int .i64 p.t, .int .i64 p.tl, .int .i64 p.pr, .int .i64 p.id, .int .i64 p.fr, .bool p.mo, .bool p.dn, .string p.op, .string p.da]) rfl (by kernel_rfl) (fun _ _ _ h => h) (Or.inl ⟨by rfl, ?_⟩) (by assumption) ?_
   ·
    intro wx hSw
    try dsimp only at hSw
    have u3 := hc3 wx hSw
    have u1 := he1 wx hSw
    have u10 := hp0 wx hSw
    have u11 := hp1 wx hSw
    have u12 := hp2 wx hSw
    have u13 := hp3 wx hSw
    have u14 := hp4 wx hSw
    have u15 := hp5 wx hSw
    have u16 := hp6 wx hSw
    have u17 := hp7 wx hSw
    have u18 := hp8 wx hSw
    have u19 := hp9 wx hSw
    have u20 := hq0 wx hSw
    have u21 := hq1 wx hSw
    have u22 := hq2 wx hSw
    have u23 := hq3 wx hSw
    have u24 := hq4 wx hSw
    have u25 := hq5 wx hSw
    have u26 := hq6 wx hSw
    have u27 := hq7 wx hSw
    have u28 := hq8 wx hSw
    have u29 := hq9 wx hSw
    go_simp
    try with_reducible rfl
   try simp only [Act.put, La1, La2, La3]
   refine wpAnyH_ready (rs := [19]) (by kernel_rfl) (by simp) ?_
   refine AllReadyH.cons (o := ⟨some 55, .call { callee := .value (.func 26), args := #[.tmp 53, .tmp 54], argTypes := #[32, 32] }, 4, "ref.go:120", #[⟨17, .data⟩, ⟨18, .data⟩, ⟨7, .chain⟩, ⟨7, .guard⟩], some (7, true)⟩) rfl (fun K hK => ?_) AllReadyH.nil
   go_simp
   go_at_call 26
   refine (tog_any q p _).mono ?_
   rintro e wc ⟨rfl, hbc⟩
   rw [hdec]
   first
    | refine hK.out _ _ ?_ (fun hHeld => ?_)
    | (go_wp2_with fail; refine hK.out _ _ ?_ (fun hHeld => ?_))
   ·
    try dsimp only
    exact bt hHeld hbc
   clear hK K
   try simp only [Act.put, La1, La2, La3]
   refine tk (i := 20) (oi := ⟨some 56, .unOp .not 4 (.tmp 55), 4, "ref.go:120", #[⟨19, .data⟩, ⟨7, .guard⟩], some (7, true)⟩) (v := .bool false) rfl (by kernel_rfl) (fun _ _ _ h => h) (Or.inl ⟨by rfl, ?_⟩) (by assumption) ?_
   ·
    intro wx hSw
    go_simp
    try with_reducible rfl
   try simp only [Act.put, La1, La2, La3]
   refine tk (i := 21) (oi := ⟨some 57, .pick (.tmp 43) (.tmp 56) (.const (.bool false)), 4, "ref.go:120", #[⟨7, .data⟩, ⟨20, .data⟩], none⟩) (v := .bool false) rfl (by kernel_rfl) (fun _ _ _ h => h) (Or.inl ⟨by rfl, ?_⟩) (by assumption) ?_
   ·
    intro wx hSw
    go_simp
    try with_reducible rfl
   try simp only [Act.put, La1, La2, La3]
   refine wpAnyH_done (by kernel_rfl) ?_ _
   have hh := hHeld
   clear hHeld
   obtain ⟨wl, hwl⟩ : ∃ z, z = wc := ⟨wc, rfl⟩
   subst hwl
   have hb' := bt hb hh
   have y3 := hc3 _ hh
   have y1 := he1 _ hh
   have y0 := he0 _ hh
   have hne : ((k : Int) == (L.length : Int)) = false := by simp; omega
   have HRL : Hid (RW wl base (.slice (some ⟨gx, 0, none⟩) x.ps.length xc) x.ps) := HRX.out.later hh
   have hPl := (hP3.later hb')
   have hZl := (hZ3.later hb')
   have hKl := (hK3.later hb')
   clear hc3 he1 he0 hp0 hq0 hp1 hq1 hp2 hq2 hp3 hq3 hp4 hq4 hp5 hq5 hp6 hq6 hp7 hq7 hp8 hq8 hp9 hq9
   go_wp2
   go_loopw [13] (fun vi wr => ∃ m : Nat, m ≤ x.ps.length ∧ vi = .int .i64 (m : Int) ∧ Below wl.heap.size wl wr) (fun vi _ => x.ps.length - (intOf vi).toNat)
   case atStart => exact ⟨0, Nat.zero_le _, rfl, Below.refl _ _⟩
   case round =>
    obtain ⟨m, hm, rfl, hbm⟩ := hrel
    by_cases hmlt : m < x.ps.length
    ·
     obtain ⟨y, hy⟩ : ∃ y, x.ps[m]? = some y := ⟨x.ps[m], List.getElem?_eq_getElem hmlt⟩
     have hcm := (HRL.out.later hbm).cells hy
     have z5 := hcm 5 _ rfl
     have z6 := hcm 6 _ rfl
     have z9 := hcm 9 _ rfl
     obtain ⟨⟨a0, a1, a2, a3, a4, a5, a6, a7, a8, a9⟩, -, -⟩ := (hPl.later hbm).ten
     clear a0 a1 a2 a3 a4 a7 a8 hcm
     have hm1 : (m : Int) < (x.ps.length : Int) := by omega
     have hm3 : (0 : Int) ≤ (m : Int) := by omega
     have HS : Hid (sameB y p = false) := HAS.out y (List.mem_of_getElem? hy)
     clear hy
     go_wp2_with fail
     go_upto_region 22 with fail
     by_cases b1 : y.fr = p.fr
     ·
      have b1' : (y.fr == p.fr) = true := by simp [b1]
      by_cases b2 : y.da = p.da
      ·
       have b2' : (y.da.toList == p.da.toList) = true := by rw [b2]; simp
       by_cases b3 : y.mo = p.mo
       · exact absurd HS.out (by simp [sameB, b1, b2, b3])
       ·
        have b3' : (y.mo == p.mo) = false := by simp [b3]
        clear b1 b2 b3
        go_quiet (fail)
        have hbz := bt hbm (below_drewN (Below.refl _ _) nq)
        generalize wr.drewN nq = we at *
        go_wp2
        go_roundw
        case rel => exact ⟨m + 1, by omega, by first | rfl | simp, hbz⟩
        case measure => simp [intOf]; omega
      ·
       have b2' : (y.da.toList == p.da.toList) = false := by rw [tl_eq]; exact decide_eq_false b2
       clear b1 b2
       go_quiet (fail)
       have hbz := bt hbm (below_drewN (Below.refl _ _) nq)
       generalize wr.drewN nq = we at *
       go_wp2
       go_roundw
       case rel => exact ⟨m + 1, by omega, by first | rfl | simp, hbz⟩
       case measure => simp [intOf]; omega
     ·
      have b1' : (y.fr == p.fr) = false := by simp [b1]
      clear b1
      go_quiet (fail)
      have hbz := bt hbm (below_drewN (Below.refl _ _) nq)
      generalize wr.drewN nq = we at *
      go_wp2
      go_roundw
      case rel => exact ⟨m + 1, by omega, by first | rfl | simp, hbz⟩
      case measure => simp [intOf]; omega
    ·
     have hm1 : ¬ (m : Int) < (x.ps.length : Int) := by omega
     have hPr := hPl.later hbm
     have hZr := hZl.later hbm
     have hKr := hKl.later hbm
     have HRr : Hid (RW wr base (.slice (some ⟨gx, 0, none⟩) x.ps.length xc) x.ps) := HRL.out.later hbm
     have z3 := later hbm y3
     have z1 := later hbm y1
     have z0 := later hbm y0
     have hbr := bt hb' hbm
     clear y3 y1 y0 hPl hZl hKl
     go_wp2_with (first | (refine wpList_load_at rfl 32 _ rfl _ w.heap.size #[.int .i64 p.f, .int .i64 p.t, .int .i64 p.tl, .int .i64 p.pr, .int .i64 p.id, .int .i64 p.fr, .bool p.mo, .bool p.dn, .string p.op, .string p.da] _ rfl hPr Try.underlying32 (by kernel_rfl) ?_) | fail)
     refine (rfits_any x.ps p _ base wr HRr.out hplx hp HFX.out).mono ?_
     rw [HFT.out x HLX.out]
     rintro e wf ⟨rfl, lf⟩
     replace hPr := hPr.later lf
     replace hZr := hZr.later lf
     replace hKr := hKr.later lf
     have HRf : Hid (RW wf base (.slice (some ⟨gx, 0, none⟩) x.ps.length xc) x.ps) := HRr.out.later lf
     replace z3 := later lf z3
     replace z1 := later lf z1
     replace z0 := later lf z0
     replace hbr := bt hbr lf
     clear lf hbm
     have HDf : Hid (DR wf base (.slice (some ⟨g, off, none⟩) L.length cc) (L.map DP.e)) := HD3.out.later hbr
     have HRWf : Hid (∀ x ∈ L, RW wf base x.v x.ps) := fun y hy => (HR3.out y hy).later hbr
     have HTf : Hid (Turn (fun k => k = K) w wf) := HT3.out.later hbr
     have hsf : w.heap.size + 1 < wf.heap.size := hZr.1
     have hc3 : ∀ wx, Below wf.heap.size wf wx → wx.cell? ⟨K, 3, none⟩ = some (.slice (some ⟨g, off, none⟩) L.length cc) := fun wx h => later h z3
     have he0 : ∀ wx, Below wf.heap.size wf wx → wx.cell? ⟨g, off + k * 2, none⟩ = some (.int .i64 x.at_) := fun wx h => later h z0
     obtain ⟨⟨a0, a1, a2, a3, a4, a5, a6, a7, a8, a9⟩, -, -⟩ := hPr.ten
     have hp0 := fun wx (h : Below wf.heap.size wf wx) => later h a0
     have hp1 := fun wx (h : Below wf.heap.size wf wx) => later h a1
     have hp2 := fun wx (h : Below wf.heap.size wf wx) => later h a2
     have hp3 := fun wx (h : Below wf.heap.size wf wx) => later h a3
     have hp4 := fun wx (h : Below wf.heap.size wf wx) => later h a4
     have hp5 := fun wx (h : Below wf.heap.size wf wx) => later h a5
     have hp6 := fun wx (h : Below wf.heap.size wf wx) => later h a6
     have hp7 := fun wx (h : Below wf.heap.size wf wx) => later h a7
     have hp8 := fun wx (h : Below wf.heap.size wf wx) => later h a8
     have hp9 := fun wx (h : Below wf.heap.size wf wx) => later h a9
     clear a0 a1 a2 a3 a4 a5 a6 a7 a8 a9 z3 z1 z0
     go_upto_region 27 with fail
     go_cut [14] from 140 to 220 (fun s14 W => ∃ z a' n' c', s14 = .pointer (some ⟨z, 0, none⟩) ∧ At W z #[.int .i64 x.at_, .slice a' n' c'] ∧ RW W wf.heap.size (.slice a' n' c') (x.ps ++ [p]) ∧ (∀ k, (Value.slice a' n' c').ownBlock = some k → k ≠ z) ∧ Below wf.heap.size wf W ∧ wf.heap.size ≤ z)
     case first =>
      as_aux_lemma =>
       refine wp_region_held_drew (S := (fun W => Below wf.heap.size wf W)) (by kernel_rfl) ?_ (fun hHeld => ?_)
       · first | exact (Below.refl _ _).drew | assumption
       generalize wf.drew = wl at *
       refine tk (i := 0) (oi := ⟨some 151, .move (.tmp 0), 27, "ref.go:142", #[], none⟩) (v := .pointer (some ⟨K, 0, none⟩)) rfl (by kernel_rfl) (fun _ _ _ h => h) (Or.inl ⟨by rfl, ?_⟩) (by assumption) ?_
       ·
        intro wx hSw
        go_simp
        try with_reducible rfl
       try simp only [Act.put, La1, La2, La3]
       refine tk (i := 1) (oi := ⟨some 152, .nilCheck (.tmp 151), 0, "ref.go:142", #[⟨0, .data⟩], none⟩) (v := .pointer (some ⟨K, 0, none⟩)) rfl (by kernel_rfl) (fun _ _ _ h => h) (Or.inl ⟨by rfl, ?_⟩) (by assumption) ?_
       ·
        intro wx hSw
        go_simp
        try with_reducible rfl
       try simp only [Act.put, La1, La2, La3]
       refine tk (i := 2) (oi := ⟨some 153, .fieldAddr 44 (.tmp 152) 3, 0, "ref.go:142", #[⟨1, .data⟩], none⟩) (v := .pointer (some ⟨K, 3, none⟩)) rfl (by kernel_rfl) (fun _ _ _ h => h) (Or.inl ⟨by rfl, ?_⟩) (by assumption) ?_
       ·
        intro wx hSw
        go_simp
        try with_reducible rfl
       try simp only [Act.put, La1, La2, La3]
       refine tk (i := 3) (oi := ⟨some 154, .load 42 (.tmp 153), 42, "ref.go:142", #[⟨2, .data⟩], none⟩) (v := .slice (some ⟨g, off, none⟩) L.length cc) rfl (by kernel_rfl) (fun _ _ _ h => h) (Or.inl ⟨by rfl, ?_⟩) (by assumption) ?_
       ·
        intro wx hSw
        try dsimp only at hSw
        have u3 := hc3 wx hSw
        have u0 := he0 wx hSw
        have u10 := hp0 wx hSw
        have u11 := hp1 wx hSw
        have u12 := hp2 wx hSw
        have u13 := hp3 wx hSw
        have u14 := hp4 wx hSw
        have u15 := hp5 wx hSw
        have u16 := hp6 wx hSw
        have u17 := hp7 wx hSw
        have u18 := hp8 wx hSw
        have u19 := hp9 wx hSw
        go_simp
        try with_reducible rfl
       try simp only [Act.put, La1, La2, La3]
       refine tk (i := 4) (oi := ⟨some 155, .move (.tmp 11), 3, "ref.go:142", #[], none⟩) (v := .int .i64 (k : Int)) rfl (by kernel_rfl) (fun _ _ _ h => h) (Or.inl ⟨by rfl, ?_⟩) (by assumption) ?_
       ·
        intro wx hSw
        go_simp
        try with_reducible rfl
       try simp only [Act.put, La1, La2, La3]
       refine tk (i := 5) (oi := ⟨some 156, .indexAddr 42 (.tmp 154) (.tmp 155), 0, "ref.go:142", #[⟨3, .data⟩, ⟨4, .data⟩], none⟩) (v := .pointer (some ⟨g, off + k * 2, none⟩)) rfl (by kernel_rfl) (fun _ _ _ h => h) (Or.inl ⟨by rfl, ?_⟩) (by assumption) ?_
       ·
        intro wx hSw
        go_simp
        try with_reducible rfl
       try simp only [Act.put, La1, La2, La3]
       refine tk (i := 6) (oi := ⟨some 157, .fieldAddr 64 (.tmp 156) 0, 0, "ref.go:142", #[⟨5, .data⟩], none⟩) (v := .pointer (some ⟨g, off + k * 2, none⟩)) rfl (by kernel_rfl) (fun _ _ _ h => h) (Or.inl ⟨by rfl, ?_⟩) (by assumption) ?_
       ·
        intro wx hSw
        go_simp
        try with_reducible rfl
       try simp only [Act.put, La1, La2, La3]
       refine tk (i := 7) (oi := ⟨some 158, .load 3 (.tmp 157), 3, "ref.go:142", #[⟨6, .data⟩], none⟩) (v := .int .i64 x.at_) rfl (by kernel_rfl) (fun _ _ _ h => h) (Or.inl ⟨by rfl, ?_⟩) (by assumption) ?_
       ·
        intro wx hSw
        try dsimp only at hSw
        have u3 := hc3 wx hSw
        have u0 := he0 wx hSw
        have u10 := hp0 wx hSw
        have u11 := hp1 wx hSw
        have u12 := hp2 wx hSw
        have u13 := hp3 wx hSw
        have u14 := hp4 wx hSw
        have u15 := hp5 wx hSw
        have u16 := hp6 wx hSw
        have u17 := hp7 wx hSw
        have u18 := hp8 wx hSw
        have u19 := hp9 wx hSw
        go_simp
        try with_reducible rfl
       try simp only [Act.put, La1, La2, La3]
       refine tk (i := 9) (oi := ⟨some 160, .move (.tmp 12), 36, "ref.go:142", #[], none⟩) (v := .slice (some ⟨gx, 0, none⟩) x.ps.length xc) rfl (by kernel_rfl) (fun _ _ _ h => h) (Or.inl ⟨by rfl, ?_⟩) (by assumption) ?_
       ·
        intro wx hSw
        go_simp
        try with_reducible rfl
       try simp only [Act.put, La1, La2, La3]
       refine tk (i := 11) (oi := ⟨some 162, .load 32 (.tmp 4), 32, "ref.go:142", #[], none⟩) (v := .agg #[.int .i64 p.f, .int .i64 p.t, .int .i64 p.tl, .int .i64 p.pr, .int .i64 p.id, .int .i64 p.fr, .bool p.mo, .bool p.dn, .string p.op, .string p.da]) rfl (by kernel_rfl) (fun _ _ _ h => h) (Or.inl ⟨by rfl, ?_⟩) (by assumption) ?_
       ·
        intro wx hSw
        try dsimp only at hSw
        have u3 := hc3 wx hSw
        have u0 := he0 wx hSw
        have u10 := hp0 wx hSw
        have u11 := hp1 wx hSw
        have u12 := hp2 wx hSw
        have u13 := hp3 wx hSw
        have u14 := hp4 wx hSw
        have u15 := hp5 wx hSw
        have u16 := hp6 wx hSw
        have u17 := hp7 wx hSw
        have u18 := hp8 wx hSw
        have u19 := hp9 wx hSw
        go_simp
        try with_reducible rfl
       try simp only [Act.put, La1, La2, La3]
       refine wpAnyH_ready (rs := [8, 12, 15]) (by kernel_rfl) (by simp) ?_
       refine AllReadyH.cons (o := ⟨some 159, .buildSlice 36 0 #[], 36, "ref.go:142", #[], none⟩) rfl (fun K hK => ?_) (AllReadyH.cons (o := ⟨some 163, .buildSlice 36 1 #[(0, .tmp 162)], 36, "ref.go:142", #[⟨11, .data⟩], none⟩) rfl (fun K hK => ?_) (AllReadyH.cons (o := ⟨some 14, .alloc 64, 0, "ref.go:142", #[], none⟩) rfl (fun K hK => ?_) AllReadyH.nil))
       ·
        refine step_b0P (by rfl) (by rfl) wf.heap.size hHeld.size ?_
        intro g8 wl hg8 hg8b hE8 hB
        refine hK.out _ _ (bt hHeld hB) (fun hHeld => ?_)
        try have hne : g12 ≠ g8 := by omega
        try have hz8 : z ≠ g8 := by omega
        try replace hA15 := hA15.later hB
        try replace h12 := h12.later hB
        try replace h10 := h10.later hB
        try replace h13 := h13.later hB
        try replace hg12b := Nat.lt_of_lt_of_le hg12b hB.size
        try replace hzb := Nat.lt_of_lt_of_le hzb hB.size
        clear hK K
        try simp only [Act.put, La1, La2, La3]
        refine wpAnyH_ready (rs := [10, 12, 15]) (by kernel_rfl) (by simp) ?_
        refine AllReadyH.cons (o := ⟨some 161, .call { callee := .builtin .append, args := #[.tmp 159, .tmp 160], argTypes := #[36, 36] }, 36, "ref.go:142", #[⟨8, .data⟩, ⟨9, .data⟩], none⟩) rfl (fun K hK => ?_) (AllReadyH.cons (o := ⟨some 163, .buildSlice 36 1 #[(0, .tmp 162)], 36, "ref.go:142", #[⟨11, .data⟩], none⟩) rfl (fun K hK => ?_) (AllReadyH.cons (o := ⟨some 14, .alloc 64, 0, "ref.go:142", #[], none⟩) rfl (fun K hK => ?_) AllReadyH.nil))
        ·
         refine step_appP (by rfl) _ _ (by rfl) (by rfl) (by rfl) hE8 (HRf.out.later hHeld) hHeld.size (by simp; omega) ?_
         intro a10 n10 c10 wl h10 ht10 hk10 hB
         refine hK.out _ _ (hHeld.trans hB) (fun hHeld => ?_)
         rw [List.nil_append] at h10
         try have hz10 : ∀ k, (Value.slice a10 n10 c10).ownBlock = some k → k ≠ z := by intro k hk; rcases hk10 k hk with e | e <;> first | omega | (have e2 : g8 = k := (by injection e); omega)
         try replace hA15 := hA15.turn ht10 (by intro e; have e2 : g8 = z := (by injection e); omega)
         try replace h12 := h12.turn ht10 (by intro k hk e; have e1 : g12 = k := (by injection hk); have e2 : g8 = k := (by injection e); omega)
         try replace hg8b := Nat.lt_of_lt_of_le hg8b hB.size
         try replace hg12b := Nat.lt_of_lt_of_le hg12b hB.size
         try replace hzb := Nat.lt_of_lt_of_le hzb hB.size
         clear hK K
         try simp only [Act.put, La1, La2, La3]
         refine wpAnyH_ready (rs := [12, 15]) (by kernel_rfl) (by simp) ?_
         refine AllReadyH.cons (o := ⟨some 163, .buildSlice 36 1 #[(0, .tmp 162)], 36, "ref.go:142", #[⟨11, .data⟩], none⟩) rfl (fun K hK => ?_) (AllReadyH.cons (o := ⟨some 14, .alloc 64, 0, "ref.go:142", #[], none⟩) rfl (fun K hK => ?_) AllReadyH.nil)
         ·
          refine step_bsP (by rfl) _ (by rfl) p (by rfl) wf.heap.size hHeld.size ?_
          intro g12 wl hg12 hg12b h12 hB
          refine hK.out _ _ (bt hHeld hB) (fun hHeld => ?_)
          try have hne : g12 ≠ g8 := by omega
          try replace hA15 := hA15.later hB
          try replace hE8 := hE8.later hB
          try replace h10 := h10.later hB
          try replace h13 := h13.later hB
          try replace hg8b := Nat.lt_of_lt_of_le hg8b hB.size
          try replace hzb := Nat.lt_of_lt_of_le hzb hB.size
          clear hK K
          try simp only [Act.put, La1, La2, La3]
          refine wpAnyH_ready (rs := [13, 15]) (by kernel_rfl) (by simp) ?_
          refine AllReadyH.cons (o := ⟨some 164, .call { callee := .builtin .append, args := #[.tmp 161, .tmp 163], argTypes := #[36, 36] }, 36, "ref.go:142", #[⟨10, .data⟩, ⟨12, .data⟩, ⟨10, .chain⟩], none⟩) rfl (fun K hK => ?_) (AllReadyH.cons (o := ⟨some 14, .alloc 64, 0, "ref.go:142", #[], none⟩) rfl (fun K hK => ?_) AllReadyH.nil)
          ·
           refine step_appP (by rfl) _ _ (by rfl) (by rfl) (by rfl) h10 h12 hHeld.size (by simp; omega) ?_
           intro a13 n13 c13 wl h13 ht13 hk13 hB
           refine hK.out _ _ (hHeld.trans hB) (fun hHeld => ?_)
           try replace hA15 := hA15.turn ht13 (by intro e; exact hz10 _ e rfl)
           try have hz13 : ∀ k, (Value.slice a13 n13 c13).ownBlock = some k → k ≠ z := by intro k hk; rcases hk13 k hk with e | e <;> first | exact hz10 k e | omega
           try replace hg8b := Nat.lt_of_lt_of_le hg8b hB.size
           try replace hg12b := Nat.lt_of_lt_of_le hg12b hB.size
           try replace hzb := Nat.lt_of_lt_of_le hzb hB.size
           clear hK K
           try simp only [Act.put, La1, La2, La3]
           refine tk (i := 14) (oi := ⟨some 165, .build 64 #[(0, .tmp 158), (1, .tmp 164)], 64, "ref.go:142", #[⟨7, .data⟩, ⟨13, .data⟩], none⟩) (v := .agg #[.int .i64 x.at_, .slice a13 n13 c13]) rfl (by kernel_rfl) (fun _ _ _ h => h) (Or.inl ⟨by rfl, ?_⟩) (by assumption) ?_
           ·
            intro wx hSw
            go_simp
            try with_reducible rfl
           try simp only [Act.put, La1, La2, La3]
           refine wpAnyH_ready (rs := [15]) (by kernel_rfl) (by simp) ?_
           refine AllReadyH.cons (o := ⟨some 14, .alloc 64, 0, "ref.go:142", #[], none⟩) rfl (fun K hK => ?_) AllReadyH.nil
           ·
            go_simp
            have hB := bel1 wl (.cells #[.int .i64 0, .slice none 0 0] 64)
            have hzf : wf.heap.size ≤ wl.heap.size := hHeld.size
            refine hK.out _ _ (bt hHeld hB) (fun hHeld => ?_)
            have hA15 := At.box wl #[.int .i64 0, .slice none 0 0] 64
            have hzb : wl.heap.size < (wl.alloc (.cells #[.int .i64 0, .slice none 0 0] 64)).heap.size := by simp
            try have hz8 : wl.heap.size ≠ g8 := by omega
            try have hz10 : ∀ k, (Value.slice a10 n10 c10).ownBlock = some k → k ≠ wl.heap.size := by intro k hk; have := h10.lt k hk; omega
            try have hz13 : ∀ k, (Value.slice a13 n13 c13).ownBlock = some k → k ≠ wl.heap.size := by intro k hk; have := h13.lt k hk; omega
            try replace h12 := h12.later hB
            try replace hE8 := hE8.later hB
            try replace h10 := h10.later hB
            try replace h13 := h13.later hB
            try replace hg8b := Nat.lt_of_lt_of_le hg8b hB.size
            try replace hg12b := Nat.lt_of_lt_of_le hg12b hB.size
            clear hB
            generalize wl.alloc (.cells #[.int .i64 0, .slice none 0 0] 64) = wl2 at *
            generalize wl.heap.size = z at *
            obtain ⟨wl, hwl⟩ : ∃ q, q = wl2 := ⟨wl2, rfl⟩
            subst hwl
            clear hK K
            try simp only [Act.put, La1, La2, La3]
            refine wpAnyH_ready (rs := [16]) (by kernel_rfl) (by simp) ?_
            refine AllReadyH.cons (o := ⟨none, .store 64 (.tmp 14) (.tmp 165), 0, "ref.go:142", #[⟨15, .data⟩, ⟨14, .data⟩, ⟨13, .chain⟩, ⟨0, .phase⟩, ⟨1, .phase⟩, ⟨2, .phase⟩, ⟨3, .phase⟩, ⟨4, .phase⟩, ⟨5, .phase⟩, ⟨6, .phase⟩, ⟨7, .phase⟩, ⟨8, .phase⟩, ⟨9, .phase⟩, ⟨10, .phase⟩, ⟨11, .phase⟩, ⟨12, .phase⟩, ⟨13, .phase⟩, ⟨14, .phase⟩, ⟨15, .phase⟩], none⟩) rfl (fun K hK => ?_) AllReadyH.nil
            ·
             refine step_storeA (by rfl) _ _ _ (by rfl) z _ #[.int .i64 x.at_, .slice a13 n13 c13] (by rfl) (by rfl) hA15 rfl (by kernel_rfl) (by simp [Value.oneCell']) ?_
             intro wl hA16 ht16
             refine hK.out _ _ (hHeld.trans (ht16.below hHeld.size (fun k hk e => by omega))) (fun hHeld => ?_)
             replace h13 := h13.turn ht16 (fun k hk e => hz13 k hk e)
             clear hK K
             try simp only [Act.put, La1, La2, La3]
             refine wpAnyH_done (by kernel_rfl) ?_ _
             go_wp2
             go_meet
             case rel => exact ⟨z, a13, n13, c13, rfl, hA16, h13, hz13, hHeld, by omega⟩
          ·
           go_simp
           have hB := bel1 wl (.cells #[.int .i64 0, .slice none 0 0] 64)
           have hzf : wf.heap.size ≤ wl.heap.size := hHeld.size
           refine hK.out _ _ (bt hHeld hB) (fun hHeld => ?_)
           have hA15 := At.box wl #[.int .i64 0, .slice none 0 0] 64
           have hzb : wl.heap.size < (wl.alloc (.cells #[.int .i64 0, .slice none 0 0] 64)).heap.size := by simp
           try have hz8 : wl.heap.size ≠ g8 := by omega
           try have hz10 : ∀ k, (Value.slice a10 n10 c10).ownBlock = some k → k ≠ wl.heap.size := by intro k hk; have := h10.lt k hk; omega
           try have hz13 : ∀ k, (Value.slice a13 n13 c13).ownBlock = some k → k ≠ wl.heap.size := by intro k hk; have := h13.lt k hk; omega
           try replace h12 := h12.later hB
           try replace hE8 := hE8.later hB
           try replace h10 := h10.later hB
           try replace h13 := h13.later hB
           try replace hg8b := Nat.lt_of_lt_of_le hg8b hB.size
           try replace hg12b := Nat.lt_of_lt_of_le hg12b hB.size
           clear hB
           generalize wl.alloc (.cells #[.int .i64 0, .slice none 0 0] 64) = wl2 at *
           generalize wl.heap.size = z at *
           obtain ⟨wl, hwl⟩ : ∃ q, q = wl2 := ⟨wl2, rfl⟩
           subst hwl
           clear hK K
           try simp only [Act.put, La1, La2, La3]
           refine wpAnyH_ready (rs := [13]) (by kernel_rfl) (by simp) ?_
           refine AllReadyH.cons (o := ⟨some 164, .call { callee := .builtin .append, args := #[.tmp 161, .tmp 163], argTypes := #[36, 36] }, 36, "ref.go:142", #[⟨10, .data⟩, ⟨12, .data⟩, ⟨10, .chain⟩], none⟩) rfl (fun K hK => ?_) AllReadyH.nil
           ·
            refine step_appP (by rfl) _ _ (by rfl) (by rfl) (by rfl) h10 h12 hHeld.size (by simp; omega) ?_
            intro a13 n13 c13 wl h13 ht13 hk13 hB
            refine hK.out _ _ (hHeld.trans hB) (fun hHeld => ?_)
            try replace hA15 := hA15.turn ht13 (by intro e; exact hz10 _ e rfl)
            try have hz13 : ∀ k, (Value.slice a13 n13 c13).ownBlock = some k → k ≠ z := by intro k hk; rcases hk13 k hk with e | e <;> first | exact hz10 k e | omega
            try replace hg8b := Nat.lt_of_lt_of_le hg8b hB.size
            try replace hg12b := Nat.lt_of_lt_of_le hg12b hB.size
            try replace hzb := Nat.lt_of_lt_of_le hzb hB.size
            clear hK K
            try simp only [Act.put, La1, La2, La3]
            refine tk (i := 14) (oi := ⟨some 165, .build 64 #[(0, .tmp 158), (1, .tmp 164)], 64, "ref.go:142", #[⟨7, .data⟩, ⟨13, .data⟩], none⟩) (v := .agg #[.int .i64 x.at_, .slice a13 n13 c13]) rfl (by kernel_rfl) (fun _ _ _ h => h) (Or.inl ⟨by rfl, ?_⟩) (by assumption) ?_
            ·
             intro wx hSw
             go_simp
             try with_reducible rfl
            try simp only [Act.put, La1, La2, La3]
            refine wpAnyH_ready (rs := [16]) (by kernel_rfl) (by simp) ?_
            refine AllReadyH.cons (o := ⟨none, .store 64 (.tmp 14) (.tmp 165), 0, "ref.go:142", #[⟨15, .data⟩, ⟨14, .data⟩, ⟨13, .chain⟩, ⟨0, .phase⟩, ⟨1, .phase⟩, ⟨2, .phase⟩, ⟨3, .phase⟩, ⟨4, .phase⟩, ⟨5, .phase⟩, ⟨6, .phase⟩, ⟨7, .phase⟩, ⟨8, .phase⟩, ⟨9, .phase⟩, ⟨10, .phase⟩, ⟨11, .phase⟩, ⟨12, .phase⟩, ⟨13, .phase⟩, ⟨14, .phase⟩, ⟨15, .phase⟩], none⟩) rfl (fun K hK => ?_) AllReadyH.nil
            ·
             refine step_storeA (by rfl) _ _ _ (by rfl) z _ #[.int .i64 x.at_, .slice a13 n13 c13] (by rfl) (by rfl) hA15 rfl (by kernel_rfl) (by simp [Value.oneCell']) ?_
             intro wl hA16 ht16
             refine hK.out _ _ (hHeld.trans (ht16.below hHeld.size (fun k hk e => by omega))) (fun hHeld => ?_)
             replace h13 := h13.turn ht16 (fun k hk e => hz13 k hk e)
             clear hK K
             try simp only [Act.put, La1, La2, La3]
             refine wpAnyH_done (by kernel_rfl) ?_ _
             go_wp2
             go_meet
             case rel => exact ⟨z, a13, n13, c13, rfl, hA16, h13, hz13, hHeld, by omega⟩
         ·
          go_simp
          have hB := bel1 wl (.cells #[.int .i64 0, .slice none 0 0] 64)
          have hzf : wf.heap.size ≤ wl.heap.size := hHeld.size
          refine hK.out _ _ (bt hHeld hB) (fun hHeld => ?_)
          have hA15 := At.box wl #[.int .i64 0, .slice none 0 0] 64
          have hzb : wl.heap.size < (wl.alloc (.cells #[.int .i64 0, .slice none 0 0] 64)).heap.size := by simp
          try have hz8 : wl.heap.size ≠ g8 := by omega
          try have hz10 : ∀ k, (Value.slice a10 n10 c10).ownBlock = some k → k ≠ wl.heap.size := by intro k hk; have := h10.lt k hk; omega
          try have hz13 : ∀ k, (Value.slice a13 n13 c13).ownBlock = some k → k ≠ wl.heap.size := by intro k hk; have := h13.lt k hk; omega
          try replace h12 := h12.later hB
          try replace hE8 := hE8.later hB
          try replace h10 := h10.later hB
          try replace h13 := h13.later hB
          try replace hg8b := Nat.lt_of_lt_of_le hg8b hB.size
          try replace hg12b := Nat.lt_of_lt_of_le hg12b hB.size
          clear hB
          generalize wl.alloc (.cells #[.int .i64 0, .slice none 0 0] 64) = wl2 at *
          generalize wl.heap.size = z at *
          obtain ⟨wl, hwl⟩ : ∃ q, q = wl2 := ⟨wl2, rfl⟩
          subst hwl
          clear hK K
          try simp only [Act.put, La1, La2, La3]
          refine wpAnyH_ready (rs := [12]) (by kernel_rfl) (by simp) ?_
          refine AllReadyH.cons (o := ⟨some 163, .buildSlice 36 1 #[(0, .tmp 162)], 36, "ref.go:142", #[⟨11, .data⟩], none⟩) rfl (fun K hK => ?_) AllReadyH.nil
          ·
           refine step_bsP (by rfl) _ (by rfl) p (by rfl) wf.heap.size hHeld.size ?_
           intro g12 wl hg12 hg12b h12 hB
           refine hK.out _ _ (bt hHeld hB) (fun hHeld => ?_)
           try have hne : g12 ≠ g8 := by omega
           try replace hA15 := hA15.later hB
           try replace hE8 := hE8.later hB
           try replace h10 := h10.later hB
           try replace h13 := h13.later hB
           try replace hg8b := Nat.lt_of_lt_of_le hg8b hB.size
           try replace hzb := Nat.lt_of_lt_of_le hzb hB.size
           clear hK K
           try simp only [Act.put, La1, La2, La3]
           refine wpAnyH_ready (rs := [13]) (by kernel_rfl) (by simp) ?_
           refine AllReadyH.cons (o := ⟨some 164, .call { callee := .builtin .append, args := #[.tmp 161, .tmp 163], argTypes := #[36, 36] }, 36, "ref.go:142", #[⟨10, .data⟩, ⟨12, .data⟩, ⟨10, .chain⟩], none⟩) rfl (fun K hK => ?_) AllReadyH.nil
           ·
            refine step_appP (by rfl) _ _ (by rfl) (by rfl) (by rfl) h10 h12 hHeld.size (by simp; omega) ?_
            intro a13 n13 c13 wl h13 ht13 hk13 hB
            refine hK.out _ _ (hHeld.trans hB) (fun hHeld => ?_)
            try replace hA15 := hA15.turn ht13 (by intro e; exact hz10 _ e rfl)
            try have hz13 : ∀ k, (Value.slice a13 n13 c13).ownBlock = some k → k ≠ z := by intro k hk; rcases hk13 k hk with e | e <;> first | exact hz10 k e | omega
            try replace hg8b := Nat.lt_of_lt_of_le hg8b hB.size
            try replace hg12b := Nat.lt_of_lt_of_le hg12b hB.size
            try replace hzb := Nat.lt_of_lt_of_le hzb hB.size
            clear hK K
            try simp only [Act.put, La1, La2, La3]
            refine tk (i := 14) (oi := ⟨some 165, .build 64 #[(0, .tmp 158), (1, .tmp 164)], 64, "ref.go:142", #[⟨7, .data⟩, ⟨13, .data⟩], none⟩) (v := .agg #[.int .i64 x.at_, .slice a13 n13 c13]) rfl (by kernel_rfl) (fun _ _ _ h => h) (Or.inl ⟨by rfl, ?_⟩) (by assumption) ?_
            ·
             intro wx hSw
             go_simp
             try with_reducible rfl
            try simp only [Act.put, La1, La2, La3]
            refine wpAnyH_ready (rs := [16]) (by kernel_rfl) (by simp) ?_
            refine AllReadyH.cons (o := ⟨none, .store 64 (.tmp 14) (.tmp 165), 0, "ref.go:142", #[⟨15, .data⟩, ⟨14, .data⟩, ⟨13, .chain⟩, ⟨0, .phase⟩, ⟨1, .phase⟩, ⟨2, .phase⟩, ⟨3, .phase⟩, ⟨4, .phase⟩, ⟨5, .phase⟩, ⟨6, .phase⟩, ⟨7, .phase⟩, ⟨8, .phase⟩, ⟨9, .phase⟩, ⟨10, .phase⟩, ⟨11, .phase⟩, ⟨12, .phase⟩, ⟨13, .phase⟩, ⟨14, .phase⟩, ⟨15, .phase⟩], none⟩) rfl (fun K hK => ?_) AllReadyH.nil
            ·
             refine step_storeA (by rfl) _ _ _ (by rfl) z _ #[.int .i64 x.at_, .slice a13 n13 c13] (by rfl) (by rfl) hA15 rfl (by kernel_rfl) (by simp [Value.oneCell']) ?_
             intro wl hA16 ht16
             refine hK.out _ _ (hHeld.trans (ht16.below hHeld.size (fun k hk e => by omega))) (fun hHeld => ?_)
             replace h13 := h13.turn ht16 (fun k hk e => hz13 k hk e)
             clear hK K
             try simp only [Act.put, La1, La2, La3]
             refine wpAnyH_done (by kernel_rfl) ?_ _
             go_wp2
             go_meet
             case rel => exact ⟨z, a13, n13, c13, rfl, hA16, h13, hz13, hHeld, by omega⟩
        ·
         refine step_bsP (by rfl) _ (by rfl) p (by rfl) wf.heap.size hHeld.size ?_
         intro g12 wl hg12 hg12b h12 hB
         refine hK.out _ _ (bt hHeld hB) (fun hHeld => ?_)
         try have hne : g12 ≠ g8 := by omega
         try replace hA15 := hA15.later hB
         try replace hE8 := hE8.later hB
         try replace h10 := h10.later hB
         try replace h13 := h13.later hB
         try replace hg8b := Nat.lt_of_lt_of_le hg8b hB.size
         try replace hzb := Nat.lt_of_lt_of_le hzb hB.size
         clear hK K
         try simp only [Act.put, La1, La2, La3]
         refine wpAnyH_ready (rs := [10, 15]) (by kernel_rfl) (by simp) ?_
         refine AllReadyH.cons (o := ⟨some 161, .call { callee := .builtin .append, args := #[.tmp 159, .tmp 160], argTypes := #[36, 36] }, 36, "ref.go:142", #[⟨8, .data⟩, ⟨9, .data⟩], none⟩) rfl (fun K hK => ?_) (AllReadyH.cons (o := ⟨some 14, .alloc 64, 0, "ref.go:142", #[], none⟩) rfl (fun K hK => ?_) AllReadyH.nil)
         ·
          refine step_appP (by rfl) _ _ (by rfl) (by rfl) (by rfl) hE8 (HRf.out.later hHeld) hHeld.size (by simp; omega) ?_
          intro a10 n10 c10 wl h10 ht10 hk10 hB
          refine hK.out _ _ (hHeld.trans hB) (fun hHeld => ?_)
          rw [List.nil_append] at h10
          try have hz10 : ∀ k, (Value.slice a10 n10 c10).ownBlock = some k → k ≠ z := by intro k hk; rcases hk10 k hk with e | e <;> first | omega | (have e2 : g8 = k := (by injection e); omega)
          try replace hA15 := hA15.turn ht10 (by intro e; have e2 : g8 = z := (by injection e); omega)
          try replace h12 := h12.turn ht10 (by intro k hk e; have e1 : g12 = k := (by injection hk); have e2 : g8 = k := (by injection e); omega)
          try replace hg8b := Nat.lt_of_lt_of_le hg8b hB.size
          try replace hg12b := Nat.lt_of_lt_of_le hg12b hB.size
          try replace hzb := Nat.lt_of_lt_of_le hzb hB.size
          clear hK K
          try simp only [Act.put, La1, La2, La3]
          refine wpAnyH_ready (rs := [13, 15]) (by kernel_rfl) (by simp) ?_
          refine AllReadyH.cons (o := ⟨some 164, .call { callee := .builtin .append, args := #[.tmp 161, .tmp 163], argTypes := #[36, 36] }, 36, "ref.go:142", #[⟨10, .data⟩, ⟨12, .data⟩, ⟨10, .chain⟩], none⟩) rfl (fun K hK => ?_) (AllReadyH.cons (o := ⟨some 14, .alloc 64, 0, "ref.go:142", #[], none⟩) rfl (fun K hK => ?_) AllReadyH.nil)
          ·
           refine step_appP (by rfl) _ _ (by rfl) (by rfl) (by rfl) h10 h12 hHeld.size (by simp; omega) ?_
           intro a13 n13 c13 wl h13 ht13 hk13 hB
           refine hK.out _ _ (hHeld.trans hB) (fun hHeld => ?_)
           try replace hA15 := hA15.turn ht13 (by intro e; exact hz10 _ e rfl)
           try have hz13 : ∀ k, (Value.slice a13 n13 c13).ownBlock = some k → k ≠ z := by intro k hk; rcases hk13 k hk with e | e <;> first | exact hz10 k e | omega
           try replace hg8b := Nat.lt_of_lt_of_le hg8b hB.size
           try replace hg12b := Nat.lt_of_lt_of_le hg12b hB.size
           try replace hzb := Nat.lt_of_lt_of_le hzb hB.size
           clear hK K
           try simp only [Act.put, La1, La2, La3]
           refine tk (i := 14) (oi := ⟨some 165, .build 64 #[(0, .tmp 158), (1, .tmp 164)], 64, "ref.go:142", #[⟨7, .data⟩, ⟨13, .data⟩], none⟩) (v := .agg #[.int .i64 x.at_, .slice a13 n13 c13]) rfl (by kernel_rfl) (fun _ _ _ h => h) (Or.inl ⟨by rfl, ?_⟩) (by assumption) ?_
           ·
            intro wx hSw
            go_simp
            try with_reducible rfl
           try simp only [Act.put, La1, La2, La3]
           refine wpAnyH_ready (rs := [15]) (by kernel_rfl) (by simp) ?_
           refine AllReadyH.cons (o := ⟨some 14, .alloc 64, 0, "ref.go:142", #[], none⟩) rfl (fun K hK => ?_) AllReadyH.nil
           ·
            go_simp
            have hB := bel1 wl (.cells #[.int .i64 0, .slice none 0 0] 64)
            have hzf : wf.heap.size ≤ wl.heap.size := hHeld.size
            refine hK.out _ _ (bt hHeld hB) (fun hHeld => ?_)
            have hA15 := At.box wl #[.int .i64 0, .slice none 0 0] 64
            have hzb : wl.heap.size < (wl.alloc (.cells #[.int .i64 0, .slice none 0 0] 64)).heap.size := by simp
            try have hz8 : wl.heap.size ≠ g8 := by omega
            try have hz10 : ∀ k, (Value.slice a10 n10 c10).ownBlock = some k → k ≠ wl.heap.size := by intro k hk; have := h10.lt k hk; omega
            try have hz13 : ∀ k, (Value.slice a13 n13 c13).ownBlock = some k → k ≠ wl.heap.size := by intro k hk; have := h13.lt k hk; omega
            try replace h12 := h12.later hB
            try replace hE8 := hE8.later hB
            try replace h10 := h10.later hB
            try replace h13 := h13.later hB
            try replace hg8b := Nat.lt_of_lt_of_le hg8b hB.size
            try replace hg12b := Nat.lt_of_lt_of_le hg12b hB.size
            clear hB
            generalize wl.alloc (.cells #[.int .i64 0, .slice none 0 0] 64) = wl2 at *
            generalize wl.heap.size = z at *
            obtain ⟨wl, hwl⟩ : ∃ q, q = wl2 := ⟨wl2, rfl⟩
            subst hwl
            clear hK K
            try simp only [Act.put, La1, La2, La3]
            refine wpAnyH_ready (rs := [16]) (by kernel_rfl) (by simp) ?_
            refine AllReadyH.cons (o := ⟨none, .store 64 (.tmp 14) (.tmp 165), 0, "ref.go:142", #[⟨15, .data⟩, ⟨14, .data⟩, ⟨13, .chain⟩, ⟨0, .phase⟩, ⟨1, .phase⟩, ⟨2, .phase⟩, ⟨3, .phase⟩, ⟨4, .phase⟩, ⟨5, .phase⟩, ⟨6, .phase⟩, ⟨7, .phase⟩, ⟨8, .phase⟩, ⟨9, .phase⟩, ⟨10, .phase⟩, ⟨11, .phase⟩, ⟨12, .phase⟩, ⟨13, .phase⟩, ⟨14, .phase⟩, ⟨15, .phase⟩], none⟩) rfl (fun K hK => ?_) AllReadyH.nil
            ·
             refine step_storeA (by rfl) _ _ _ (by rfl) z _ #[.int .i64 x.at_, .slice a13 n13 c13] (by rfl) (by rfl) hA15 rfl (by kernel_rfl) (by simp [Value.oneCell']) ?_
             intro wl hA16 ht16
             refine hK.out _ _ (hHeld.trans (ht16.below hHeld.size (fun k hk e => by omega))) (fun hHeld => ?_)
             replace h13 := h13.turn ht16 (fun k hk e => hz13 k hk e)
             clear hK K
             try simp only [Act.put, La1, La2, La3]
             refine wpAnyH_done (by kernel_rfl) ?_ _
             go_wp2
             go_meet
             case rel => exact ⟨z, a13, n13, c13, rfl, hA16, h13, hz13, hHeld, by omega⟩
          ·
           go_simp
           have hB := bel1 wl (.cells #[.int .i64 0, .slice none 0 0] 64)
           have hzf : wf.heap.size ≤ wl.heap.size := hHeld.size
           refine hK.out _ _ (bt hHeld hB) (fun hHeld => ?_)
           have hA15 := At.box wl #[.int .i64 0, .slice none 0 0] 64
           have hzb : wl.heap.size < (wl.alloc (.cells #[.int .i64 0, .slice none 0 0] 64)).heap.size := by simp
           try have hz8 : wl.heap.size ≠ g8 := by omega
           try have hz10 : ∀ k, (Value.slice a10 n10 c10).ownBlock = some k → k ≠ wl.heap.size := by intro k hk; have := h10.lt k hk; omega
           try have hz13 : ∀ k, (Value.slice a13 n13 c13).ownBlock = some k → k ≠ wl.heap.size := by intro k hk; have := h13.lt k hk; omega
           try replace h12 := h12.later hB
           try replace hE8 := hE8.later hB
           try replace h10 := h10.later hB
           try replace h13 := h13.later hB
           try replace hg8b := Nat.lt_of_lt_of_le hg8b hB.size
           try replace hg12b := Nat.lt_of_lt_of_le hg12b hB.size
           clear hB
           generalize wl.alloc (.cells #[.int .i64 0, .slice none 0 0] 64) = wl2 at *
           generalize wl.heap.size = z at *
           obtain ⟨wl, hwl⟩ : ∃ q, q = wl2 := ⟨wl2, rfl⟩
           subst hwl
           clear hK K
           try simp only [Act.put, La1, La2, La3]
           refine wpAnyH_ready (rs := [13]) (by kernel_rfl) (by simp) ?_
           refine AllReadyH.cons (o := ⟨some 164, .call { callee := .builtin .append, args := #[.tmp 161, .tmp 163], argTypes := #[36, 36] }, 36, "ref.go:142", #[⟨10, .data⟩, ⟨12, .data⟩, ⟨10, .chain⟩], none⟩) rfl (fun K hK => ?_) AllReadyH.nil
           ·
            refine step_appP (by rfl) _ _ (by rfl) (by rfl) (by rfl) h10 h12 hHeld.size (by simp; omega) ?_
            intro a13 n13 c13 wl h13 ht13 hk13 hB
            refine hK.out _ _ (hHeld.trans hB) (fun hHeld => ?_)
            try replace hA15 := hA15.turn ht13 (by intro e; exact hz10 _ e rfl)
            try have hz13 : ∀ k, (Value.slice a13 n13 c13).ownBlock = some k → k ≠ z := by intro k hk; rcases hk13 k hk with e | e <;> first | exact hz10 k e | omega
            try replace hg8b := Nat.lt_of_lt_of_le hg8b hB.size
            try replace hg12b := Nat.lt_of_lt_of_le hg12b hB.size
            try replace hzb := Nat.lt_of_lt_of_le hzb hB.size
            clear hK K
            try simp only [Act.put, La1, La2, La3]
            refine tk (i := 14) (oi := ⟨some 165, .build 64 #[(0, .tmp 158), (1, .tmp 164)], 64, "ref.go:142", #[⟨7, .data⟩, ⟨13, .data⟩], none⟩) (v := .agg #[.int .i64 x.at_, .slice a13 n13 c13]) rfl (by kernel_rfl) (fun _ _ _ h => h) (Or.inl ⟨by rfl, ?_⟩) (by assumption) ?_
            ·
             intro wx hSw
             go_simp
             try with_reducible rfl
            try simp only [Act.put, La1, La2, La3]
            refine wpAnyH_ready (rs := [16]) (by kernel_rfl) (by simp) ?_
            refine AllReadyH.cons (o := ⟨none, .store 64 (.tmp 14) (.tmp 165), 0, "ref.go:142", #[⟨15, .data⟩, ⟨14, .data⟩, ⟨13, .chain⟩, ⟨0, .phase⟩, ⟨1, .phase⟩, ⟨2, .phase⟩, ⟨3, .phase⟩, ⟨4, .phase⟩, ⟨5, .phase⟩, ⟨6, .phase⟩, ⟨7, .phase⟩, ⟨8, .phase⟩, ⟨9, .phase⟩, ⟨10, .phase⟩, ⟨11, .phase⟩, ⟨12, .phase⟩, ⟨13, .phase⟩, ⟨14, .phase⟩, ⟨15, .phase⟩], none⟩) rfl (fun K hK => ?_) AllReadyH.nil
            ·
             refine step_storeA (by rfl) _ _ _ (by rfl) z _ #[.int .i64 x.at_, .slice a13 n13 c13] (by rfl) (by rfl) hA15 rfl (by kernel_rfl) (by simp [Value.oneCell']) ?_
             intro wl hA16 ht16
             refine hK.out _ _ (hHeld.trans (ht16.below hHeld.size (fun k hk e => by omega))) (fun hHeld => ?_)
             replace h13 := h13.turn ht16 (fun k hk e => hz13 k hk e)
             clear hK K
             try simp only [Act.put, La1, La2, La3]
             refine wpAnyH_done (by kernel_rfl) ?_ _
             go_wp2
             go_meet
             case rel => exact ⟨z, a13, n13, c13, rfl, hA16, h13, hz13, hHeld, by omega⟩
         ·
          go_simp
          have hB := bel1 wl (.cells #[.int .i64 0, .slice none 0 0] 64)
          have hzf : wf.heap.size ≤ wl.heap.size := hHeld.size
          refine hK.out _ _ (bt hHeld hB) (fun hHeld => ?_)
          have hA15 := At.box wl #[.int .i64 0, .slice none 0 0] 64
          have hzb : wl.heap.size < (wl.alloc (.cells #[.int .i64 0, .slice none 0 0] 64)).heap.size := by simp
          try have hz8 : wl.heap.size ≠ g8 := by omega
          try have hz10 : ∀ k, (Value.slice a10 n10 c10).ownBlock = some k → k ≠ wl.heap.size := by intro k hk; have := h10.lt k hk; omega
          try have hz13 : ∀ k, (Value.slice a13 n13 c13).ownBlock = some k → k ≠ wl.heap.size := by intro k hk; have := h13.lt k hk; omega
          try replace h12 := h12.later hB
          try replace hE8 := hE8.later hB
          try replace h10 := h10.later hB
          try replace h13 := h13.later hB
          try replace hg8b := Nat.lt_of_lt_of_le hg8b hB.size
          try replace hg12b := Nat.lt_of_lt_of_le hg12b hB.size
          clear hB
          generalize wl.alloc (.cells #[.int .i64 0, .slice none 0 0] 64) = wl2 at *
          generalize wl.heap.size = z at *
          obtain ⟨wl, hwl⟩ : ∃ q, q = wl2 := ⟨wl2, rfl⟩
          subst hwl
          clear hK K
          try simp only [Act.put, La1, La2, La3]
          refine wpAnyH_ready (rs := [10]) (by kernel_rfl) (by simp) ?_
          refine AllReadyH.cons (o := ⟨some 161, .call { callee := .builtin .append, args := #[.tmp 159, .tmp 160], argTypes := #[36, 36] }, 36, "ref.go:142", #[⟨8, .data⟩, ⟨9, .data⟩], none⟩) rfl (fun K hK => ?_) AllReadyH.nil
          ·
           refine step_appP (by rfl) _ _ (by rfl) (by rfl) (by rfl) hE8 (HRf.out.later hHeld) hHeld.size (by simp; omega) ?_
           intro a10 n10 c10 wl h10 ht10 hk10 hB
           refine hK.out _ _ (hHeld.trans hB) (fun hHeld => ?_)
           rw [List.nil_append] at h10
           try have hz10 : ∀ k, (Value.slice a10 n10 c10).ownBlock = some k → k ≠ z := by intro k hk; rcases hk10 k hk with e | e <;> first | omega | (have e2 : g8 = k := (by injection e); omega)
           try replace hA15 := hA15.turn ht10 (by intro e; have e2 : g8 = z := (by injection e); omega)
           try replace h12 := h12.turn ht10 (by intro k hk e; have e1 : g12 = k := (by injection hk); have e2 : g8 = k := (by injection e); omega)
           try replace hg8b := Nat.lt_of_lt_of_le hg8b hB.size
           try replace hg12b := Nat.lt_of_lt_of_le hg12b hB.size
           try replace hzb := Nat.lt_of_lt_of_le hzb hB.size
           clear hK K
           try simp only [Act.put, La1, La2, La3]
           refine wpAnyH_ready (rs := [13]) (by kernel_rfl) (by simp) ?_
           refine AllReadyH.cons (o := ⟨some 164, .call { callee := .builtin .append, args := #[.tmp 161, .tmp 163], argTypes := #[36, 36] }, 36, "ref.go:142", #[⟨10, .data⟩, ⟨12, .data⟩, ⟨10, .chain⟩], none⟩) rfl (fun K hK => ?_) AllReadyH.nil
           ·
            refine step_appP (by rfl) _ _ (by rfl) (by rfl) (by rfl) h10 h12 hHeld.size (by simp; omega) ?_
            intro a13 n13 c13 wl h13 ht13 hk13 hB
            refine hK.out _ _ (hHeld.trans hB) (fun hHeld => ?_)
            try replace hA15 := hA15.turn ht13 (by intro e; exact hz10 _ e rfl)
            try have hz13 : ∀ k, (Value.slice a13 n13 c13).ownBlock = some k → k ≠ z := by intro k hk; rcases hk13 k hk with e | e <;> first | exact hz10 k e | omega
            try replace hg8b := Nat.lt_of_lt_of_le hg8b hB.size
            try replace hg12b := Nat.lt_of_lt_of_le hg12b hB.size
            try replace hzb := Nat.lt_of_lt_of_le hzb hB.size
            clear hK K
            try simp only [Act.put, La1, La2, La3]
            refine tk (i := 14) (oi := ⟨some 165, .build 64 #[(0, .tmp 158), (1, .tmp 164)], 64, "ref.go:142", #[⟨7, .data⟩, ⟨13, .data⟩], none⟩) (v := .agg #[.int .i64 x.at_, .slice a13 n13 c13]) rfl (by kernel_rfl) (fun _ _ _ h => h) (Or.inl ⟨by rfl, ?_⟩) (by assumption) ?_
            ·
             intro wx hSw
             go_simp
             try with_reducible rfl
            try simp only [Act.put, La1, La2, La3]
            refine wpAnyH_ready (rs := [16]) (by kernel_rfl) (by simp) ?_
            refine AllReadyH.cons (o := ⟨none, .store 64 (.tmp 14) (.tmp 165), 0, "ref.go:142", #[⟨15, .data⟩, ⟨14, .data⟩, ⟨13, .chain⟩, ⟨0, .phase⟩, ⟨1, .phase⟩, ⟨2, .phase⟩, ⟨3, .phase⟩, ⟨4, .phase⟩, ⟨5, .phase⟩, ⟨6, .phase⟩, ⟨7, .phase⟩, ⟨8, .phase⟩, ⟨9, .phase⟩, ⟨10, .phase⟩, ⟨11, .phase⟩, ⟨12, .phase⟩, ⟨13, .phase⟩, ⟨14, .phase⟩, ⟨15, .phase⟩], none⟩) rfl (fun K hK => ?_) AllReadyH.nil
            ·
             refine step_storeA (by rfl) _ _ _ (by rfl) z _ #[.int .i64 x.at_, .slice a13 n13 c13] (by rfl) (by rfl) hA15 rfl (by kernel_rfl) (by simp [Value.oneCell']) ?_
             intro wl hA16 ht16
             refine hK.out _ _ (hHeld.trans (ht16.below hHeld.size (fun k hk e => by omega))) (fun hHeld => ?_)
             replace h13 := h13.turn ht16 (fun k hk e => hz13 k hk e)
             clear hK K
             try simp only [Act.put, La1, La2, La3]
             refine wpAnyH_done (by kernel_rfl) ?_ _
             go_wp2
             go_meet
             case rel => exact ⟨z, a13, n13, c13, rfl, hA16, h13, hz13, hHeld, by omega⟩
        ·
         go_simp
         have hB := bel1 wl (.cells #[.int .i64 0, .slice none 0 0] 64)
         have hzf : wf.heap.size ≤ wl.heap.size := hHeld.size
         refine hK.out _ _ (bt hHeld hB) (fun hHeld => ?_)
         have hA15 := At.box wl #[.int .i64 0, .slice none 0 0] 64
         have hzb : wl.heap.size < (wl.alloc (.cells #[.int .i64 0, .slice none 0 0] 64)).heap.size := by simp
         try have hz8 : wl.heap.size ≠ g8 := by omega
         try have hz10 : ∀ k, (Value.slice a10 n10 c10).ownBlock = some k → k ≠ wl.heap.size := by intro k hk; have := h10.lt k hk; omega
         try have hz13 : ∀ k, (Value.slice a13 n13 c13).ownBlock = some k → k ≠ wl.heap.size := by intro k hk; have := h13.lt k hk; omega
         try replace h12 := h12.later hB
         try replace hE8 := hE8.later hB
         try replace h10 := h10.later hB
         try replace h13 := h13.later hB
         try replace hg8b := Nat.lt_of_lt_of_le hg8b hB.size
         try replace hg12b := Nat.lt_of_lt_of_le hg12b hB.size
         clear hB
         generalize wl.alloc (.cells #[.int .i64 0, .slice none 0 0] 64) = wl2 at *
         generalize wl.heap.size = z at *
         obtain ⟨wl, hwl⟩ : ∃ q, q = wl2 := ⟨wl2, rfl⟩
         subst hwl
         clear hK K
         try simp only [Act.put, La1, La2, La3]
         refine wpAnyH_ready (rs := [10, 12]) (by kernel_rfl) (by simp) ?_
         refine AllReadyH.cons (o := ⟨some 161, .call { callee := .builtin .append, args := #[.tmp 159, .tmp 160], argTypes := #[36, 36] }, 36, "ref.go:142", #[⟨8, .data⟩, ⟨9, .data⟩], none⟩) rfl (fun K hK => ?_) (AllReadyH.cons (o := ⟨some 163, .buildSlice 36 1 #[(0, .tmp 162)], 36, "ref.go:142", #[⟨11, .data⟩], none⟩) rfl (fun K hK => ?_) AllReadyH.nil)
         ·
          refine step_appP (by rfl) _ _ (by rfl) (by rfl) (by rfl) hE8 (HRf.out.later hHeld) hHeld.size (by simp; omega) ?_
          intro a10 n10 c10 wl h10 ht10 hk10 hB
          refine hK.out _ _ (hHeld.trans hB) (fun hHeld => ?_)
          rw [List.nil_append] at h10
          try have hz10 : ∀ k, (Value.slice a10 n10 c10).ownBlock = some k → k ≠ z := by intro k hk; rcases hk10 k hk with e | e <;> first | omega | (have e2 : g8 = k := (by injection e); omega)
          try replace hA15 := hA15.turn ht10 (by intro e; have e2 : g8 = z := (by injection e); omega)
          try replace h12 := h12.turn ht10 (by intro k hk e; have e1 : g12 = k := (by injection hk); have e2 : g8 = k := (by injection e); omega)
          try replace hg8b := Nat.lt_of_lt_of_le hg8b hB.size
          try replace hg12b := Nat.lt_of_lt_of_le hg12b hB.size
          try replace hzb := Nat.lt_of_lt_of_le hzb hB.size
          clear hK K
          try simp only [Act.put, La1, La2, La3]
          refine wpAnyH_ready (rs := [12]) (by kernel_rfl) (by simp) ?_
          refine AllReadyH.cons (o := ⟨some 163, .buildSlice 36 1 #[(0, .tmp 162)], 36, "ref.go:142", #[⟨11, .data⟩], none⟩) rfl (fun K hK => ?_) AllReadyH.nil
          ·
           refine step_bsP (by rfl) _ (by rfl) p (by rfl) wf.heap.size hHeld.size ?_
           intro g12 wl hg12 hg12b h12 hB
           refine hK.out _ _ (bt hHeld hB) (fun hHeld => ?_)
           try have hne : g12 ≠ g8 := by omega
           try replace hA15 := hA15.later hB
           try replace hE8 := hE8.later hB
           try replace h10 := h10.later hB
           try replace h13 := h13.later hB
           try replace hg8b := Nat.lt_of_lt_of_le hg8b hB.size
           try replace hzb := Nat.lt_of_lt_of_le hzb hB.size
           clear hK K
           try simp only [Act.put, La1, La2, La3]
           refine wpAnyH_ready (rs := [13]) (by kernel_rfl) (by simp) ?_
           refine AllReadyH.cons (o := ⟨some 164, .call { callee := .builtin .append, args := #[.tmp 161, .tmp 163], argTypes := #[36, 36] }, 36, "ref.go:142", #[⟨10, .data⟩, ⟨12, .data⟩, ⟨10, .chain⟩], none⟩) rfl (fun K hK => ?_) AllReadyH.nil
           ·
            refine step_appP (by rfl) _ _ (by rfl) (by rfl) (by rfl) h10 h12 hHeld.size (by simp; omega) ?_
            intro a13 n13 c13 wl h13 ht13 hk13 hB
            refine hK.out _ _ (hHeld.trans hB) (fun hHeld => ?_)
            try replace hA15 := hA15.turn ht13 (by intro e; exact hz10 _ e rfl)
            try have hz13 : ∀ k, (Value.slice a13 n13 c13).ownBlock = some k → k ≠ z := by intro k hk; rcases hk13 k hk with e | e <;> first | exact hz10 k e | omega
            try replace hg8b := Nat.lt_of_lt_of_le hg8b hB.size
            try replace hg12b := Nat.lt_of_lt_of_le hg12b hB.size
            try replace hzb := Nat.lt_of_lt_of_le hzb hB.size
            clear hK K
            try simp only [Act.put, La1, La2, La3]
            refine tk (i := 14) (oi := ⟨some 165, .build 64 #[(0, .tmp 158), (1, .tmp 164)], 64, "ref.go:142", #[⟨7, .data⟩, ⟨13, .data⟩], none⟩) (v := .agg #[.int .i64 x.at_, .slice a13 n13 c13]) rfl (by kernel_rfl) (fun _ _ _ h => h) (Or.inl ⟨by rfl, ?_⟩) (by assumption) ?_
            ·
             intro wx hSw
             go_simp
             try with_reducible rfl
            try simp only [Act.put, La1, La2, La3]
            refine wpAnyH_ready (rs := [16]) (by kernel_rfl) (by simp) ?_
            refine AllReadyH.cons (o := ⟨none, .store 64 (.tmp 14) (.tmp 165), 0, "ref.go:142", #[⟨15, .data⟩, ⟨14, .data⟩, ⟨13, .chain⟩, ⟨0, .phase⟩, ⟨1, .phase⟩, ⟨2, .phase⟩, ⟨3, .phase⟩, ⟨4, .phase⟩, ⟨5, .phase⟩, ⟨6, .phase⟩, ⟨7, .phase⟩, ⟨8, .phase⟩, ⟨9, .phase⟩, ⟨10, .phase⟩, ⟨11, .phase⟩, ⟨12, .phase⟩, ⟨13, .phase⟩, ⟨14, .phase⟩, ⟨15, .phase⟩], none⟩) rfl (fun K hK => ?_) AllReadyH.nil
            ·
             refine step_storeA (by rfl) _ _ _ (by rfl) z _ #[.int .i64 x.at_, .slice a13 n13 c13] (by rfl) (by rfl) hA15 rfl (by kernel_rfl) (by simp [Value.oneCell']) ?_
             intro wl hA16 ht16
             refine hK.out _ _ (hHeld.trans (ht16.below hHeld.size (fun k hk e => by omega))) (fun hHeld => ?_)
             replace h13 := h13.turn ht16 (fun k hk e => hz13 k hk e)
             clear hK K
             try simp only [Act.put, La1, La2, La3]
             refine wpAnyH_done (by kernel_rfl) ?_ _
             go_wp2
             go_meet
             case rel => exact ⟨z, a13, n13, c13, rfl, hA16, h13, hz13, hHeld, by omega⟩
         ·
          refine step_bsP (by rfl) _ (by rfl) p (by rfl) wf.heap.size hHeld.size ?_
          intro g12 wl hg12 hg12b h12 hB
          refine hK.out _ _ (bt hHeld hB) (fun hHeld => ?_)
          try have hne : g12 ≠ g8 := by omega
          try replace hA15 := hA15.later hB
          try replace hE8 := hE8.later hB
          try replace h10 := h10.later hB
          try replace h13 := h13.later hB
          try replace hg8b := Nat.lt_of_lt_of_le hg8b hB.size
          try replace hzb := Nat.lt_of_lt_of_le hzb hB.size
          clear hK K
          try simp only [Act.put, La1, La2, La3]
          refine wpAnyH_ready (rs := [10]) (by kernel_rfl) (by simp) ?_
          refine AllReadyH.cons (o := ⟨some 161, .call { callee := .builtin .append, args := #[.tmp 159, .tmp 160], argTypes := #[36, 36] }, 36, "ref.go:142", #[⟨8, .data⟩, ⟨9, .data⟩], none⟩) rfl (fun K hK => ?_) AllReadyH.nil
          ·
           refine step_appP (by rfl) _ _ (by rfl) (by rfl) (by rfl) hE8 (HRf.out.later hHeld) hHeld.size (by simp; omega) ?_
           intro a10 n10 c10 wl h10 ht10 hk10 hB
           refine hK.out _ _ (hHeld.trans hB) (fun hHeld => ?_)
           rw [List.nil_append] at h10
           try have hz10 : ∀ k, (Value.slice a10 n10 c10).ownBlock = some k → k ≠ z := by intro k hk; rcases hk10 k hk with e | e <;> first | omega | (have e2 : g8 = k := (by injection e); omega)
           try replace hA15 := hA15.turn ht10 (by intro e; have e2 : g8 = z := (by injection e); omega)
           try replace h12 := h12.turn ht10 (by intro k hk e; have e1 : g12 = k := (by injection hk); have e2 : g8 = k := (by injection e); omega)
           try replace hg8b := Nat.lt_of_lt_of_le hg8b hB.size
           try replace hg12b := Nat.lt_of_lt_of_le hg12b hB.size
           try replace hzb := Nat.lt_of_lt_of_le hzb hB.size
           clear hK K
           try simp only [Act.put, La1, La2, La3]
           refine wpAnyH_ready (rs := [13]) (by kernel_rfl) (by simp) ?_
           refine AllReadyH.cons (o := ⟨some 164, .call { callee := .builtin .append, args := #[.tmp 161, .tmp 163], argTypes := #[36, 36] }, 36, "ref.go:142", #[⟨10, .data⟩, ⟨12, .data⟩, ⟨10, .chain⟩], none⟩) rfl (fun K hK => ?_) AllReadyH.nil
           ·
            refine step_appP (by rfl) _ _ (by rfl) (by rfl) (by rfl) h10 h12 hHeld.size (by simp; omega) ?_
            intro a13 n13 c13 wl h13 ht13 hk13 hB
            refine hK.out _ _ (hHeld.trans hB) (fun hHeld => ?_)
            try replace hA15 := hA15.turn ht13 (by intro e; exact hz10 _ e rfl)
            try have hz13 : ∀ k, (Value.slice a13 n13 c13).ownBlock = some k → k ≠ z := by intro k hk; rcases hk13 k hk with e | e <;> first | exact hz10 k e | omega
            try replace hg8b := Nat.lt_of_lt_of_le hg8b hB.size
            try replace hg12b := Nat.lt_of_lt_of_le hg12b hB.size
            try replace hzb := Nat.lt_of_lt_of_le hzb hB.size
            clear hK K
            try simp only [Act.put, La1, La2, La3]
            refine tk (i := 14) (oi := ⟨some 165, .build 64 #[(0, .tmp 158), (1, .tmp 164)], 64, "ref.go:142", #[⟨7, .data⟩, ⟨13, .data⟩], none⟩) (v := .agg #[.int .i64 x.at_, .slice a13 n13 c13]) rfl (by kernel_rfl) (fun _ _ _ h => h) (Or.inl ⟨by rfl, ?_⟩) (by assumption) ?_
            ·
             intro wx hSw
             go_simp
             try with_reducible rfl
            try simp only [Act.put, La1, La2, La3]
            refine wpAnyH_ready (rs := [16]) (by kernel_rfl) (by simp) ?_
            refine AllReadyH.cons (o := ⟨none, .store 64 (.tmp 14) (.tmp 165), 0, "ref.go:142", #[⟨15, .data⟩, ⟨14, .data⟩, ⟨13, .chain⟩, ⟨0, .phase⟩, ⟨1, .phase⟩, ⟨2, .phase⟩, ⟨3, .phase⟩, ⟨4, .phase⟩, ⟨5, .phase⟩, ⟨6, .phase⟩, ⟨7, .phase⟩, ⟨8, .phase⟩, ⟨9, .phase⟩, ⟨10, .phase⟩, ⟨11, .phase⟩, ⟨12, .phase⟩, ⟨13, .phase⟩, ⟨14, .phase⟩, ⟨15, .phase⟩], none⟩) rfl (fun K hK => ?_) AllReadyH.nil
            ·
             refine step_storeA (by rfl) _ _ _ (by rfl) z _ #[.int .i64 x.at_, .slice a13 n13 c13] (by rfl) (by rfl) hA15 rfl (by kernel_rfl) (by simp [Value.oneCell']) ?_
             intro wl hA16 ht16
             refine hK.out _ _ (hHeld.trans (ht16.below hHeld.size (fun k hk e => by omega))) (fun hHeld => ?_)
             replace h13 := h13.turn ht16 (fun k hk e => hz13 k hk e)
             clear hK K
             try simp only [Act.put, La1, La2, La3]
             refine wpAnyH_done (by kernel_rfl) ?_ _
             go_wp2
             go_meet
             case rel => exact ⟨z, a13, n13, c13, rfl, hA16, h13, hz13, hHeld, by omega⟩
       ·
        refine step_bsP (by rfl) _ (by rfl) p (by rfl) wf.heap.size hHeld.size ?_
        intro g12 wl hg12 hg12b h12 hB
        refine hK.out _ _ (bt hHeld hB) (fun hHeld => ?_)
        try have hne : g12 ≠ g8 := by omega
        try replace hA15 := hA15.later hB
        try replace hE8 := hE8.later hB
        try replace h10 := h10.later hB
        try replace h13 := h13.later hB
        try replace hg8b := Nat.lt_of_lt_of_le hg8b hB.size
        try replace hzb := Nat.lt_of_lt_of_le hzb hB.size
        clear hK K
        try simp only [Act.put, La1, La2, La3]
        refine wpAnyH_ready (rs := [8, 15]) (by kernel_rfl) (by simp) ?_
        refine AllReadyH.cons (o := ⟨some 159, .buildSlice 36 0 #[], 36, "ref.go:142", #[], none⟩) rfl (fun K hK => ?_) (AllReadyH.cons (o := ⟨some 14, .alloc 64, 0, "ref.go:142", #[], none⟩) rfl (fun K hK => ?_) AllReadyH.nil)
        ·
         refine step_b0P (by rfl) (by rfl) wf.heap.size hHeld.size ?_
         intro g8 wl hg8 hg8b hE8 hB
         refine hK.out _ _ (bt hHeld hB) (fun hHeld => ?_)
         try have hne : g12 ≠ g8 := by omega
         try have hz8 : z ≠ g8 := by omega
         try replace hA15 := hA15.later hB
         try replace h12 := h12.later hB
         try replace h10 := h10.later hB
         try replace h13 := h13.later hB
         try replace hg12b := Nat.lt_of_lt_of_le hg12b hB.size
         try replace hzb := Nat.lt_of_lt_of_le hzb hB.size
         clear hK K
         try simp only [Act.put, La1, La2, La3]
         refine wpAnyH_ready (rs := [10, 15]) (by kernel_rfl) (by simp) ?_
         refine AllReadyH.cons (o := ⟨some 161, .call { callee := .builtin .append, args := #[.tmp 159, .tmp 160], argTypes := #[36, 36] }, 36, "ref.go:142", #[⟨8, .data⟩, ⟨9, .data⟩], none⟩) rfl (fun K hK => ?_) (AllReadyH.cons (o := ⟨some 14, .alloc 64, 0, "ref.go:142", #[], none⟩) rfl (fun K hK => ?_) AllReadyH.nil)
         ·
          refine step_appP (by rfl) _ _ (by rfl) (by rfl) (by rfl) hE8 (HRf.out.later hHeld) hHeld.size (by simp; omega) ?_
          intro a10 n10 c10 wl h10 ht10 hk10 hB
          refine hK.out _ _ (hHeld.trans hB) (fun hHeld => ?_)
          rw [List.nil_append] at h10
          try have hz10 : ∀ k, (Value.slice a10 n10 c10).ownBlock = some k → k ≠ z := by intro k hk; rcases hk10 k hk with e | e <;> first | omega | (have e2 : g8 = k := (by injection e); omega)
          try replace hA15 := hA15.turn ht10 (by intro e; have e2 : g8 = z := (by injection e); omega)
          try replace h12 := h12.turn ht10 (by intro k hk e; have e1 : g12 = k := (by injection hk); have e2 : g8 = k := (by injection e); omega)
          try replace hg8b := Nat.lt_of_lt_of_le hg8b hB.size
          try replace hg12b := Nat.lt_of_lt_of_le hg12b hB.size
          try replace hzb := Nat.lt_of_lt_of_le hzb hB.size
          clear hK K
          try simp only [Act.put, La1, La2, La3]
          refine wpAnyH_ready (rs := [13, 15]) (by kernel_rfl) (by simp) ?_
          refine AllReadyH.cons (o := ⟨some 164, .call { callee := .builtin .append, args := #[.tmp 161, .tmp 163], argTypes := #[36, 36] }, 36, "ref.go:142", #[⟨10, .data⟩, ⟨12, .data⟩, ⟨10, .chain⟩], none⟩) rfl (fun K hK => ?_) (AllReadyH.cons (o := ⟨some 14, .alloc 64, 0, "ref.go:142", #[], none⟩) rfl (fun K hK => ?_) AllReadyH.nil)
          ·
           refine step_appP (by rfl) _ _ (by rfl) (by rfl) (by rfl) h10 h12 hHeld.size (by simp; omega) ?_
           intro a13 n13 c13 wl h13 ht13 hk13 hB
           refine hK.out _ _ (hHeld.trans hB) (fun hHeld => ?_)
           try replace hA15 := hA15.turn ht13 (by intro e; exact hz10 _ e rfl)
           try have hz13 : ∀ k, (Value.slice a13 n13 c13).ownBlock = some k → k ≠ z := by intro k hk; rcases hk13 k hk with e | e <;> first | exact hz10 k e | omega
           try replace hg8b := Nat.lt_of_lt_of_le hg8b hB.size
           try replace hg12b := Nat.lt_of_lt_of_le hg12b hB.size
           try replace hzb := Nat.lt_of_lt_of_le hzb hB.size
           clear hK K
           try simp only [Act.put, La1, La2, La3]
           refine tk (i := 14) (oi := ⟨some 165, .build 64 #[(0, .tmp 158), (1, .tmp 164)], 64, "ref.go:142", #[⟨7, .data⟩, ⟨13, .data⟩], none⟩) (v := .agg #[.int .i64 x.at_, .slice a13 n13 c13]) rfl (by kernel_rfl) (fun _ _ _ h => h) (Or.inl ⟨by rfl, ?_⟩) (by assumption) ?_
           ·
            intro wx hSw
            go_simp
            try with_reducible rfl
           try simp only [Act.put, La1, La2, La3]
           refine wpAnyH_ready (rs := [15]) (by kernel_rfl) (by simp) ?_
           refine AllReadyH.cons (o := ⟨some 14, .alloc 64, 0, "ref.go:142", #[], none⟩) rfl (fun K hK => ?_) AllReadyH.nil
           ·
            go_simp
            have hB := bel1 wl (.cells #[.int .i64 0, .slice none 0 0] 64)
            have hzf : wf.heap.size ≤ wl.heap.size := hHeld.size
            refine hK.out _ _ (bt hHeld hB) (fun hHeld => ?_)
            have hA15 := At.box wl #[.int .i64 0, .slice none 0 0] 64
            have hzb : wl.heap.size < (wl.alloc (.cells #[.int .i64 0, .slice none 0 0] 64)).heap.size := by simp
            try have hz8 : wl.heap.size ≠ g8 := by omega
            try have hz10 : ∀ k, (Value.slice a10 n10 c10).ownBlock = some k → k ≠ wl.heap.size := by intro k hk; have := h10.lt k hk; omega
            try have hz13 : ∀ k, (Value.slice a13 n13 c13).ownBlock = some k → k ≠ wl.heap.size := by intro k hk; have := h13.lt k hk; omega
            try replace h12 := h12.later hB
            try replace hE8 := hE8.later hB
            try replace h10 := h10.later hB
            try replace h13 := h13.later hB
            try replace hg8b := Nat.lt_of_lt_of_le hg8b hB.size
            try replace hg12b := Nat.lt_of_lt_of_le hg12b hB.size
            clear hB
            generalize wl.alloc (.cells #[.int .i64 0, .slice none 0 0] 64) = wl2 at *
            generalize wl.heap.size = z at *
            obtain ⟨wl, hwl⟩ : ∃ q, q = wl2 := ⟨wl2, rfl⟩
            subst hwl
            clear hK K
            try simp only [Act.put, La1, La2, La3]
            refine wpAnyH_ready (rs := [16]) (by kernel_rfl) (by simp) ?_
            refine AllReadyH.cons (o := ⟨none, .store 64 (.tmp 14) (.tmp 165), 0, "ref.go:142", #[⟨15, .data⟩, ⟨14, .data⟩, ⟨13, .chain⟩, ⟨0, .phase⟩, ⟨1, .phase⟩, ⟨2, .phase⟩, ⟨3, .phase⟩, ⟨4, .phase⟩, ⟨5, .phase⟩, ⟨6, .phase⟩, ⟨7, .phase⟩, ⟨8, .phase⟩, ⟨9, .phase⟩, ⟨10, .phase⟩, ⟨11, .phase⟩, ⟨12, .phase⟩, ⟨13, .phase⟩, ⟨14, .phase⟩, ⟨15, .phase⟩], none⟩) rfl (fun K hK => ?_) AllReadyH.nil
            ·
             refine step_storeA (by rfl) _ _ _ (by rfl) z _ #[.int .i64 x.at_, .slice a13 n13 c13] (by rfl) (by rfl) hA15 rfl (by kernel_rfl) (by simp [Value.oneCell']) ?_
             intro wl hA16 ht16
             refine hK.out _ _ (hHeld.trans (ht16.below hHeld.size (fun k hk e => by omega))) (fun hHeld => ?_)
             replace h13 := h13.turn ht16 (fun k hk e => hz13 k hk e)
             clear hK K
             try simp only [Act.put, La1, La2, La3]
             refine wpAnyH_done (by kernel_rfl) ?_ _
             go_wp2
             go_meet
             case rel => exact ⟨z, a13, n13, c13, rfl, hA16, h13, hz13, hHeld, by omega⟩
          ·
           go_simp
           have hB := bel1 wl (.cells #[.int .i64 0, .slice none 0 0] 64)
           have hzf : wf.heap.size ≤ wl.heap.size := hHeld.size
           refine hK.out _ _ (bt hHeld hB) (fun hHeld => ?_)
           have hA15 := At.box wl #[.int .i64 0, .slice none 0 0] 64
           have hzb : wl.heap.size < (wl.alloc (.cells #[.int .i64 0, .slice none 0 0] 64)).heap.size := by simp
           try have hz8 : wl.heap.size ≠ g8 := by omega
           try have hz10 : ∀ k, (Value.slice a10 n10 c10).ownBlock = some k → k ≠ wl.heap.size := by intro k hk; have := h10.lt k hk; omega
           try have hz13 : ∀ k, (Value.slice a13 n13 c13).ownBlock = some k → k ≠ wl.heap.size := by intro k hk; have := h13.lt k hk; omega
           try replace h12 := h12.later hB
           try replace hE8 := hE8.later hB
           try replace h10 := h10.later hB
           try replace h13 := h13.later hB
           try replace hg8b := Nat.lt_of_lt_of_le hg8b hB.size
           try replace hg12b := Nat.lt_of_lt_of_le hg12b hB.size
           clear hB
           generalize wl.alloc (.cells #[.int .i64 0, .slice none 0 0] 64) = wl2 at *
           generalize wl.heap.size = z at *
           obtain ⟨wl, hwl⟩ : ∃ q, q = wl2 := ⟨wl2, rfl⟩
           subst hwl
           clear hK K
           try simp only [Act.put, La1, La2, La3]
           refine wpAnyH_ready (rs := [13]) (by kernel_rfl) (by simp) ?_
           refine AllReadyH.cons (o := ⟨some 164, .call { callee := .builtin .append, args := #[.tmp 161, .tmp 163], argTypes := #[36, 36] }, 36, "ref.go:142", #[⟨10, .data⟩, ⟨12, .data⟩, ⟨10, .chain⟩], none⟩) rfl (fun K hK => ?_) AllReadyH.nil
           ·
            refine step_appP (by rfl) _ _ (by rfl) (by rfl) (by rfl) h10 h12 hHeld.size (by simp; omega) ?_
            intro a13 n13 c13 wl h13 ht13 hk13 hB
            refine hK.out _ _ (hHeld.trans hB) (fun hHeld => ?_)
            try replace hA15 := hA15.turn ht13 (by intro e; exact hz10 _ e rfl)
            try have hz13 : ∀ k, (Value.slice a13 n13 c13).ownBlock = some k → k ≠ z := by intro k hk; rcases hk13 k hk with e | e <;> first | exact hz10 k e | omega
            try replace hg8b := Nat.lt_of_lt_of_le hg8b hB.size
            try replace hg12b := Nat.lt_of_lt_of_le hg12b hB.size
            try replace hzb := Nat.lt_of_lt_of_le hzb hB.size
            clear hK K
            try simp only [Act.put, La1, La2, La3]
            refine tk (i := 14) (oi := ⟨some 165, .build 64 #[(0, .tmp 158), (1, .tmp 164)], 64, "ref.go:142", #[⟨7, .data⟩, ⟨13, .data⟩], none⟩) (v := .agg #[.int .i64 x.at_, .slice a13 n13 c13]) rfl (by kernel_rfl) (fun _ _ _ h => h) (Or.inl ⟨by rfl, ?_⟩) (by assumption) ?_
            ·
             intro wx hSw
             go_simp
             try with_reducible rfl
            try simp only [Act.put, La1, La2, La3]
            refine wpAnyH_ready (rs := [16]) (by kernel_rfl) (by simp) ?_
            refine AllReadyH.cons (o := ⟨none, .store 64 (.tmp 14) (.tmp 165), 0, "ref.go:142", #[⟨15, .data⟩, ⟨14, .data⟩, ⟨13, .chain⟩, ⟨0, .phase⟩, ⟨1, .phase⟩, ⟨2, .phase⟩, ⟨3, .phase⟩, ⟨4, .phase⟩, ⟨5, .phase⟩, ⟨6, .phase⟩, ⟨7, .phase⟩, ⟨8, .phase⟩, ⟨9, .phase⟩, ⟨10, .phase⟩, ⟨11, .phase⟩, ⟨12, .phase⟩, ⟨13, .phase⟩, ⟨14, .phase⟩, ⟨15, .phase⟩], none⟩) rfl (fun K hK => ?_) AllReadyH.nil
            ·
             refine step_storeA (by rfl) _ _ _ (by rfl) z _ #[.int .i64 x.at_, .slice a13 n13 c13] (by rfl) (by rfl) hA15 rfl (by kernel_rfl) (by simp [Value.oneCell']) ?_
             intro wl hA16 ht16
             refine hK.out _ _ (hHeld.trans (ht16.below hHeld.size (fun k hk e => by omega))) (fun hHeld => ?_)
             replace h13 := h13.turn ht16 (fun k hk e => hz13 k hk e)
             clear hK K
             try simp only [Act.put, La1, La2, La3]
             refine wpAnyH_done (by kernel_rfl) ?_ _
             go_wp2
             go_meet
             case rel => exact ⟨z, a13, n13, c13, rfl, hA16, h13, hz13, hHeld, by omega⟩
         ·
          go_simp
          have hB := bel1 wl (.cells #[.int .i64 0, .slice none 0 0] 64)
          have hzf : wf.heap.size ≤ wl.heap.size := hHeld.size
          refine hK.out _ _ (bt hHeld hB) (fun hHeld => ?_)
          have hA15 := At.box wl #[.int .i64 0, .slice none 0 0] 64
          have hzb : wl.heap.size < (wl.alloc (.cells #[.int .i64 0, .slice none 0 0] 64)).heap.size := by simp
          try have hz8 : wl.heap.size ≠ g8 := by omega
          try have hz10 : ∀ k, (Value.slice a10 n10 c10).ownBlock = some k → k ≠ wl.heap.size := by intro k hk; have := h10.lt k hk; omega
          try have hz13 : ∀ k, (Value.slice a13 n13 c13).ownBlock = some k → k ≠ wl.heap.size := by intro k hk; have := h13.lt k hk; omega
          try replace h12 := h12.later hB
          try replace hE8 := hE8.later hB
          try replace h10 := h10.later hB
          try replace h13 := h13.later hB
          try replace hg8b := Nat.lt_of_lt_of_le hg8b hB.size
          try replace hg12b := Nat.lt_of_lt_of_le hg12b hB.size
          clear hB
          generalize wl.alloc (.cells #[.int .i64 0, .slice none 0 0] 64) = wl2 at *
          generalize wl.heap.size = z at *
          obtain ⟨wl, hwl⟩ : ∃ q, q = wl2 := ⟨wl2, rfl⟩
          subst hwl
          clear hK K
          try simp only [Act.put, La1, La2, La3]
          refine wpAnyH_ready (rs := [10]) (by kernel_rfl) (by simp) ?_
          refine AllReadyH.cons (o := ⟨some 161, .call { callee := .builtin .append, args := #[.tmp 159, .tmp 160], argTypes := #[36, 36] }, 36, "ref.go:142", #[⟨8, .data⟩, ⟨9, .data⟩], none⟩) rfl (fun K hK => ?_) AllReadyH.nil
          ·
           refine step_appP (by rfl) _ _ (by rfl) (by rfl) (by rfl) hE8 (HRf.out.later hHeld) hHeld.size (by simp; omega) ?_
           intro a10 n10 c10 wl h10 ht10 hk10 hB
           refine hK.out _ _ (hHeld.trans hB) (fun hHeld => ?_)
           rw [List.nil_append] at h10
           try have hz10 : ∀ k, (Value.slice a10 n10 c10).ownBlock = some k → k ≠ z := by intro k hk; rcases hk10 k hk with e | e <;> first | omega | (have e2 : g8 = k := (by injection e); omega)
           try replace hA15 := hA15.turn ht10 (by intro e; have e2 : g8 = z := (by injection e); omega)
           try replace h12 := h12.turn ht10 (by intro k hk e; have e1 : g12 = k := (by injection hk); have e2 : g8 = k := (by injection e); omega)
           try replace hg8b := Nat.lt_of_lt_of_le hg8b hB.size
           try replace hg12b := Nat.lt_of_lt_of_le hg12b hB.size
           try replace hzb := Nat.lt_of_lt_of_le hzb hB.size
           clear hK K
           try simp only [Act.put, La1, La2, La3]
           refine wpAnyH_ready (rs := [13]) (by kernel_rfl) (by simp) ?_
           refine AllReadyH.cons (o := ⟨some 164, .call { callee := .builtin .append, args := #[.tmp 161, .tmp 163], argTypes := #[36, 36] }, 36, "ref.go:142", #[⟨10, .data⟩, ⟨12, .data⟩, ⟨10, .chain⟩], none⟩) rfl (fun K hK => ?_) AllReadyH.nil
           ·
            refine step_appP (by rfl) _ _ (by rfl) (by rfl) (by rfl) h10 h12 hHeld.size (by simp; omega) ?_
            intro a13 n13 c13 wl h13 ht13 hk13 hB
            refine hK.out _ _ (hHeld.trans hB) (fun hHeld => ?_)
            try replace hA15 := hA15.turn ht13 (by intro e; exact hz10 _ e rfl)
            try have hz13 : ∀ k, (Value.slice a13 n13 c13).ownBlock = some k → k ≠ z := by intro k hk; rcases hk13 k hk with e | e <;> first | exact hz10 k e | omega
            try replace hg8b := Nat.lt_of_lt_of_le hg8b hB.size
            try replace hg12b := Nat.lt_of_lt_of_le hg12b hB.size
            try replace hzb := Nat.lt_of_lt_of_le hzb hB.size
            clear hK K
            try simp only [Act.put, La1, La2, La3]
            refine tk (i := 14) (oi := ⟨some 165, .build 64 #[(0, .tmp 158), (1, .tmp 164)], 64, "ref.go:142", #[⟨7, .data⟩, ⟨13, .data⟩], none⟩) (v := .agg #[.int .i64 x.at_, .slice a13 n13 c13]) rfl (by kernel_rfl) (fun _ _ _ h => h) (Or.inl ⟨by rfl, ?_⟩) (by assumption) ?_
            ·
             intro wx hSw
             go_simp
             try with_reducible rfl
            try simp only [Act.put, La1, La2, La3]
            refine wpAnyH_ready (rs := [16]) (by kernel_rfl) (by simp) ?_
            refine AllReadyH.cons (o := ⟨none, .store 64 (.tmp 14) (.tmp 165), 0, "ref.go:142", #[⟨15, .data⟩, ⟨14, .data⟩, ⟨13, .chain⟩, ⟨0, .phase⟩, ⟨1, .phase⟩, ⟨2, .phase⟩, ⟨3, .phase⟩, ⟨4, .phase⟩, ⟨5, .phase⟩, ⟨6, .phase⟩, ⟨7, .phase⟩, ⟨8, .phase⟩, ⟨9, .phase⟩, ⟨10, .phase⟩, ⟨11, .phase⟩, ⟨12, .phase⟩, ⟨13, .phase⟩, ⟨14, .phase⟩, ⟨15, .phase⟩], none⟩) rfl (fun K hK => ?_) AllReadyH.nil
            ·
             refine step_storeA (by rfl) _ _ _ (by rfl) z _ #[.int .i64 x.at_, .slice a13 n13 c13] (by rfl) (by rfl) hA15 rfl (by kernel_rfl) (by simp [Value.oneCell']) ?_
             intro wl hA16 ht16
             refine hK.out _ _ (hHeld.trans (ht16.below hHeld.size (fun k hk e => by omega))) (fun hHeld => ?_)
             replace h13 := h13.turn ht16 (fun k hk e => hz13 k hk e)
             clear hK K
             try simp only [Act.put, La1, La2, La3]
             refine wpAnyH_done (by kernel_rfl) ?_ _
             go_wp2
             go_meet
             case rel => exact ⟨z, a13, n13, c13, rfl, hA16, h13, hz13, hHeld, by omega⟩
        ·
         go_simp
         have hB := bel1 wl (.cells #[.int .i64 0, .slice none 0 0] 64)
         have hzf : wf.heap.size ≤ wl.heap.size := hHeld.size
         refine hK.out _ _ (bt hHeld hB) (fun hHeld => ?_)
         have hA15 := At.box wl #[.int .i64 0, .slice none 0 0] 64
         have hzb : wl.heap.size < (wl.alloc (.cells #[.int .i64 0, .slice none 0 0] 64)).heap.size := by simp
         try have hz8 : wl.heap.size ≠ g8 := by omega
         try have hz10 : ∀ k, (Value.slice a10 n10 c10).ownBlock = some k → k ≠ wl.heap.size := by intro k hk; have := h10.lt k hk; omega
         try have hz13 : ∀ k, (Value.slice a13 n13 c13).ownBlock = some k → k ≠ wl.heap.size := by intro k hk; have := h13.lt k hk; omega
         try replace h12 := h12.later hB
         try replace hE8 := hE8.later hB
         try replace h10 := h10.later hB
         try replace h13 := h13.later hB
         try replace hg8b := Nat.lt_of_lt_of_le hg8b hB.size
         try replace hg12b := Nat.lt_of_lt_of_le hg12b hB.size
         clear hB
         generalize wl.alloc (.cells #[.int .i64 0, .slice none 0 0] 64) = wl2 at *
         generalize wl.heap.size = z at *
         obtain ⟨wl, hwl⟩ : ∃ q, q = wl2 := ⟨wl2, rfl⟩
         subst hwl
         clear hK K
         try simp only [Act.put, La1, La2, La3]
         refine wpAnyH_ready (rs := [8]) (by kernel_rfl) (by simp) ?_
         refine AllReadyH.cons (o := ⟨some 159, .buildSlice 36 0 #[], 36, "ref.go:142", #[], none⟩) rfl (fun K hK => ?_) AllReadyH.nil
         ·
          refine step_b0P (by rfl) (by rfl) wf.heap.size hHeld.size ?_
          intro g8 wl hg8 hg8b hE8 hB
          refine hK.out _ _ (bt hHeld hB) (fun hHeld => ?_)
          try have hne : g12 ≠ g8 := by omega
          try have hz8 : z ≠ g8 := by omega
          try replace hA15 := hA15.later hB
          try replace h12 := h12.later hB
          try replace h10 := h10.later hB
          try replace h13 := h13.later hB
          try replace hg12b := Nat.lt_of_lt_of_le hg12b hB.size
          try replace hzb := Nat.lt_of_lt_of_le hzb hB.size
          clear hK K
          try simp only [Act.put, La1, La2, La3]
          refine wpAnyH_ready (rs := [10]) (by kernel_rfl) (by simp) ?_
          refine AllReadyH.cons (o := ⟨some 161, .call { callee := .builtin .append, args := #[.tmp 159, .tmp 160], argTypes := #[36, 36] }, 36, "ref.go:142", #[⟨8, .data⟩, ⟨9, .data⟩], none⟩) rfl (fun K hK => ?_) AllReadyH.nil
          ·
           refine step_appP (by rfl) _ _ (by rfl) (by rfl) (by rfl) hE8 (HRf.out.later hHeld) hHeld.size (by simp; omega) ?_
           intro a10 n10 c10 wl h10 ht10 hk10 hB
           refine hK.out _ _ (hHeld.trans hB) (fun hHeld => ?_)
           rw [List.nil_append] at h10
           try have hz10 : ∀ k, (Value.slice a10 n10 c10).ownBlock = some k → k ≠ z := by intro k hk; rcases hk10 k hk with e | e <;> first | omega | (have e2 : g8 = k := (by injection e); omega)
           try replace hA15 := hA15.turn ht10 (by intro e; have e2 : g8 = z := (by injection e); omega)
           try replace h12 := h12.turn ht10 (by intro k hk e; have e1 : g12 = k := (by injection hk); have e2 : g8 = k := (by injection e); omega)
           try replace hg8b := Nat.lt_of_lt_of_le hg8b hB.size
           try replace hg12b := Nat.lt_of_lt_of_le hg12b hB.size
           try replace hzb := Nat.lt_of_lt_of_le hzb hB.size
           clear hK K
           try simp only [Act.put, La1, La2, La3]
           refine wpAnyH_ready (rs := [13]) (by kernel_rfl) (by simp) ?_
           refine AllReadyH.cons (o := ⟨some 164, .call { callee := .builtin .append, args := #[.tmp 161, .tmp 163], argTypes := #[36, 36] }, 36, "ref.go:142", #[⟨10, .data⟩, ⟨12, .data⟩, ⟨10, .chain⟩], none⟩) rfl (fun K hK => ?_) AllReadyH.nil
           ·
            refine step_appP (by rfl) _ _ (by rfl) (by rfl) (by rfl) h10 h12 hHeld.size (by simp; omega) ?_
            intro a13 n13 c13 wl h13 ht13 hk13 hB
            refine hK.out _ _ (hHeld.trans hB) (fun hHeld => ?_)
            try replace hA15 := hA15.turn ht13 (by intro e; exact hz10 _ e rfl)
            try have hz13 : ∀ k, (Value.slice a13 n13 c13).ownBlock = some k → k ≠ z := by intro k hk; rcases hk13 k hk with e | e <;> first | exact hz10 k e | omega
            try replace hg8b := Nat.lt_of_lt_of_le hg8b hB.size
            try replace hg12b := Nat.lt_of_lt_of_le hg12b hB.size
            try replace hzb := Nat.lt_of_lt_of_le hzb hB.size
            clear hK K
            try simp only [Act.put, La1, La2, La3]
            refine tk (i := 14) (oi := ⟨some 165, .build 64 #[(0, .tmp 158), (1, .tmp 164)], 64, "ref.go:142", #[⟨7, .data⟩, ⟨13, .data⟩], none⟩) (v := .agg #[.int .i64 x.at_, .slice a13 n13 c13]) rfl (by kernel_rfl) (fun _ _ _ h => h) (Or.inl ⟨by rfl, ?_⟩) (by assumption) ?_
            ·
             intro wx hSw
             go_simp
             try with_reducible rfl
            try simp only [Act.put, La1, La2, La3]
            refine wpAnyH_ready (rs := [16]) (by kernel_rfl) (by simp) ?_
            refine AllReadyH.cons (o := ⟨none, .store 64 (.tmp 14) (.tmp 165), 0, "ref.go:142", #[⟨15, .data⟩, ⟨14, .data⟩, ⟨13, .chain⟩, ⟨0, .phase⟩, ⟨1, .phase⟩, ⟨2, .phase⟩, ⟨3, .phase⟩, ⟨4, .phase⟩, ⟨5, .phase⟩, ⟨6, .phase⟩, ⟨7, .phase⟩, ⟨8, .phase⟩, ⟨9, .phase⟩, ⟨10, .phase⟩, ⟨11, .phase⟩, ⟨12, .phase⟩, ⟨13, .phase⟩, ⟨14, .phase⟩, ⟨15, .phase⟩], none⟩) rfl (fun K hK => ?_) AllReadyH.nil
            ·
             refine step_storeA (by rfl) _ _ _ (by rfl) z _ #[.int .i64 x.at_, .slice a13 n13 c13] (by rfl) (by rfl) hA15 rfl (by kernel_rfl) (by simp [Value.oneCell']) ?_
             intro wl hA16 ht16
             refine hK.out _ _ (hHeld.trans (ht16.below hHeld.size (fun k hk e => by omega))) (fun hHeld => ?_)
             replace h13 := h13.turn ht16 (fun k hk e => hz13 k hk e)
             clear hK K
             try simp only [Act.put, La1, La2, La3]
             refine wpAnyH_done (by kernel_rfl) ?_ _
             go_wp2
             go_meet
             case rel => exact ⟨z, a13, n13, c13, rfl, hA16, h13, hz13, hHeld, by omega⟩
       ·
        go_simp
        have hB := bel1 wl (.cells #[.int .i64 0, .slice none 0 0] 64)
        have hzf : wf.heap.size ≤ wl.heap.size := hHeld.size
        refine hK.out _ _ (bt hHeld hB) (fun hHeld => ?_)
        have hA15 := At.box wl #[.int .i64 0, .slice none 0 0] 64
        have hzb : wl.heap.size < (wl.alloc (.cells #[.int .i64 0, .slice none 0 0] 64)).heap.size := by simp
        try have hz8 : wl.heap.size ≠ g8 := by omega
        try have hz10 : ∀ k, (Value.slice a10 n10 c10).ownBlock = some k → k ≠ wl.heap.size := by intro k hk; have := h10.lt k hk; omega
        try have hz13 : ∀ k, (Value.slice a13 n13 c13).ownBlock = some k → k ≠ wl.heap.size := by intro k hk; have := h13.lt k hk; omega
        try replace h12 := h12.later hB
        try replace hE8 := hE8.later hB
        try replace h10 := h10.later hB
        try replace h13 := h13.later hB
        try replace hg8b := Nat.lt_of_lt_of_le hg8b hB.size
        try replace hg12b := Nat.lt_of_lt_of_le hg12b hB.size
        clear hB
        generalize wl.alloc (.cells #[.int .i64 0, .slice none 0 0] 64) = wl2 at *
        generalize wl.heap.size = z at *
        obtain ⟨wl, hwl⟩ : ∃ q, q = wl2 := ⟨wl2, rfl⟩
        subst hwl
        clear hK K
        try simp only [Act.put, La1, La2, La3]
        refine wpAnyH_ready (rs := [8, 12]) (by kernel_rfl) (by simp) ?_
        refine AllReadyH.cons (o := ⟨some 159, .buildSlice 36 0 #[], 36, "ref.go:142", #[], none⟩) rfl (fun K hK => ?_) (AllReadyH.cons (o := ⟨some 163, .buildSlice 36 1 #[(0, .tmp 162)], 36, "ref.go:142", #[⟨11, .data⟩], none⟩) rfl (fun K hK => ?_) AllReadyH.nil)
        ·
         refine step_b0P (by rfl) (by rfl) wf.heap.size hHeld.size ?_
         intro g8 wl hg8 hg8b hE8 hB
         refine hK.out _ _ (bt hHeld hB) (fun hHeld => ?_)
         try have hne : g12 ≠ g8 := by omega
         try have hz8 : z ≠ g8 := by omega
         try replace hA15 := hA15.later hB
         try replace h12 := h12.later hB
         try replace h10 := h10.later hB
         try replace h13 := h13.later hB
         try replace hg12b := Nat.lt_of_lt_of_le hg12b hB.size
         try replace hzb := Nat.lt_of_lt_of_le hzb hB.size
         clear hK K
         try simp only [Act.put, La1, La2, La3]
         refine wpAnyH_ready (rs := [10, 12]) (by kernel_rfl) (by simp) ?_
         refine AllReadyH.cons (o := ⟨some 161, .call { callee := .builtin .append, args := #[.tmp 159, .tmp 160], argTypes := #[36, 36] }, 36, "ref.go:142", #[⟨8, .data⟩, ⟨9, .data⟩], none⟩) rfl (fun K hK => ?_) (AllReadyH.cons (o := ⟨some 163, .buildSlice 36 1 #[(0, .tmp 162)], 36, "ref.go:142", #[⟨11, .data⟩], none⟩) rfl (fun K hK => ?_) AllReadyH.nil)
         ·
          refine step_appP (by rfl) _ _ (by rfl) (by rfl) (by rfl) hE8 (HRf.out.later hHeld) hHeld.size (by simp; omega) ?_
          intro a10 n10 c10 wl h10 ht10 hk10 hB
          refine hK.out _ _ (hHeld.trans hB) (fun hHeld => ?_)
          rw [List.nil_append] at h10
          try have hz10 : ∀ k, (Value.slice a10 n10 c10).ownBlock = some k → k ≠ z := by intro k hk; rcases hk10 k hk with e | e <;> first | omega | (have e2 : g8 = k := (by injection e); omega)
          try replace hA15 := hA15.turn ht10 (by intro e; have e2 : g8 = z := (by injection e); omega)
          try replace h12 := h12.turn ht10 (by intro k hk e; have e1 : g12 = k := (by injection hk); have e2 : g8 = k := (by injection e); omega)
          try replace hg8b := Nat.lt_of_lt_of_le hg8b hB.size
          try replace hg12b := Nat.lt_of_lt_of_le hg12b hB.size
          try replace hzb := Nat.lt_of_lt_of_le hzb hB.size
          clear hK K
          try simp only [Act.put, La1, La2, La3]
          refine wpAnyH_ready (rs := [12]) (by kernel_rfl) (by simp) ?_
          refine AllReadyH.cons (o := ⟨some 163, .buildSlice 36 1 #[(0, .tmp 162)], 36, "ref.go:142", #[⟨11, .data⟩], none⟩) rfl (fun K hK => ?_) AllReadyH.nil
          ·
           refine step_bsP (by rfl) _ (by rfl) p (by rfl) wf.heap.size hHeld.size ?_
           intro g12 wl hg12 hg12b h12 hB
           refine hK.out _ _ (bt hHeld hB) (fun hHeld => ?_)
           try have hne : g12 ≠ g8 := by omega
           try replace hA15 := hA15.later hB
           try replace hE8 := hE8.later hB
           try replace h10 := h10.later hB
           try replace h13 := h13.later hB
           try replace hg8b := Nat.lt_of_lt_of_le hg8b hB.size
           try replace hzb := Nat.lt_of_lt_of_le hzb hB.size
           clear hK K
           try simp only [Act.put, La1, La2, La3]
           refine wpAnyH_ready (rs := [13]) (by kernel_rfl) (by simp) ?_
           refine AllReadyH.cons (o := ⟨some 164, .call { callee := .builtin .append, args := #[.tmp 161, .tmp 163], argTypes := #[36, 36] }, 36, "ref.go:142", #[⟨10, .data⟩, ⟨12, .data⟩, ⟨10, .chain⟩], none⟩) rfl (fun K hK => ?_) AllReadyH.nil
           ·
            refine step_appP (by rfl) _ _ (by rfl) (by rfl) (by rfl) h10 h12 hHeld.size (by simp; omega) ?_
            intro a13 n13 c13 wl h13 ht13 hk13 hB
            refine hK.out _ _ (hHeld.trans hB) (fun hHeld => ?_)
            try replace hA15 := hA15.turn ht13 (by intro e; exact hz10 _ e rfl)
            try have hz13 : ∀ k, (Value.slice a13 n13 c13).ownBlock = some k → k ≠ z := by intro k hk; rcases hk13 k hk with e | e <;> first | exact hz10 k e | omega
            try replace hg8b := Nat.lt_of_lt_of_le hg8b hB.size
            try replace hg12b := Nat.lt_of_lt_of_le hg12b hB.size
            try replace hzb := Nat.lt_of_lt_of_le hzb hB.size
            clear hK K
            try simp only [Act.put, La1, La2, La3]
            refine tk (i := 14) (oi := ⟨some 165, .build 64 #[(0, .tmp 158), (1, .tmp 164)], 64, "ref.go:142", #[⟨7, .data⟩, ⟨13, .data⟩], none⟩) (v := .agg #[.int .i64 x.at_, .slice a13 n13 c13]) rfl (by kernel_rfl) (fun _ _ _ h => h) (Or.inl ⟨by rfl, ?_⟩) (by assumption) ?_
            ·
             intro wx hSw
             go_simp
             try with_reducible rfl
            try simp only [Act.put, La1, La2, La3]
            refine wpAnyH_ready (rs := [16]) (by kernel_rfl) (by simp) ?_
            refine AllReadyH.cons (o := ⟨none, .store 64 (.tmp 14) (.tmp 165), 0, "ref.go:142", #[⟨15, .data⟩, ⟨14, .data⟩, ⟨13, .chain⟩, ⟨0, .phase⟩, ⟨1, .phase⟩, ⟨2, .phase⟩, ⟨3, .phase⟩, ⟨4, .phase⟩, ⟨5, .phase⟩, ⟨6, .phase⟩, ⟨7, .phase⟩, ⟨8, .phase⟩, ⟨9, .phase⟩, ⟨10, .phase⟩, ⟨11, .phase⟩, ⟨12, .phase⟩, ⟨13, .phase⟩, ⟨14, .phase⟩, ⟨15, .phase⟩], none⟩) rfl (fun K hK => ?_) AllReadyH.nil
            ·
             refine step_storeA (by rfl) _ _ _ (by rfl) z _ #[.int .i64 x.at_, .slice a13 n13 c13] (by rfl) (by rfl) hA15 rfl (by kernel_rfl) (by simp [Value.oneCell']) ?_
             intro wl hA16 ht16
             refine hK.out _ _ (hHeld.trans (ht16.below hHeld.size (fun k hk e => by omega))) (fun hHeld => ?_)
             replace h13 := h13.turn ht16 (fun k hk e => hz13 k hk e)
             clear hK K
             try simp only [Act.put, La1, La2, La3]
             refine wpAnyH_done (by kernel_rfl) ?_ _
             go_wp2
             go_meet
             case rel => exact ⟨z, a13, n13, c13, rfl, hA16, h13, hz13, hHeld, by omega⟩
         ·
          refine step_bsP (by rfl) _ (by rfl) p (by rfl) wf.heap.size hHeld.size ?_
          intro g12 wl hg12 hg12b h12 hB
          refine hK.out _ _ (bt hHeld hB) (fun hHeld => ?_)
          try have hne : g12 ≠ g8 := by omega
          try replace hA15 := hA15.later hB
          try replace hE8 := hE8.later hB
          try replace h10 := h10.later hB
          try replace h13 := h13.later hB
          try replace hg8b := Nat.lt_of_lt_of_le hg8b hB.size
          try replace hzb := Nat.lt_of_lt_of_le hzb hB.size
          clear hK K
          try simp only [Act.put, La1, La2, La3]
          refine wpAnyH_ready (rs := [10]) (by kernel_rfl) (by simp) ?_
          refine AllReadyH.cons (o := ⟨some 161, .call { callee := .builtin .append, args := #[.tmp 159, .tmp 160], argTypes := #[36, 36] }, 36, "ref.go:142", #[⟨8, .data⟩, ⟨9, .data⟩], none⟩) rfl (fun K hK => ?_) AllReadyH.nil
          ·
           refine step_appP (by rfl) _ _ (by rfl) (by rfl) (by rfl) hE8 (HRf.out.later hHeld) hHeld.size (by simp; omega) ?_
           intro a10 n10 c10 wl h10 ht10 hk10 hB
           refine hK.out _ _ (hHeld.trans hB) (fun hHeld => ?_)
           rw [List.nil_append] at h10
           try have hz10 : ∀ k, (Value.slice a10 n10 c10).ownBlock = some k → k ≠ z := by intro k hk; rcases hk10 k hk with e | e <;> first | omega | (have e2 : g8 = k := (by injection e); omega)
           try replace hA15 := hA15.turn ht10 (by intro e; have e2 : g8 = z := (by injection e); omega)
           try replace h12 := h12.turn ht10 (by intro k hk e; have e1 : g12 = k := (by injection hk); have e2 : g8 = k := (by injection e); omega)
           try replace hg8b := Nat.lt_of_lt_of_le hg8b hB.size
           try replace hg12b := Nat.lt_of_lt_of_le hg12b hB.size
           try replace hzb := Nat.lt_of_lt_of_le hzb hB.size
           clear hK K
           try simp only [Act.put, La1, La2, La3]
           refine wpAnyH_ready (rs := [13]) (by kernel_rfl) (by simp) ?_
           refine AllReadyH.cons (o := ⟨some 164, .call { callee := .builtin .append, args := #[.tmp 161, .tmp 163], argTypes := #[36, 36] }, 36, "ref.go:142", #[⟨10, .data⟩, ⟨12, .data⟩, ⟨10, .chain⟩], none⟩) rfl (fun K hK => ?_) AllReadyH.nil
           ·
            refine step_appP (by rfl) _ _ (by rfl) (by rfl) (by rfl) h10 h12 hHeld.size (by simp; omega) ?_
            intro a13 n13 c13 wl h13 ht13 hk13 hB
            refine hK.out _ _ (hHeld.trans hB) (fun hHeld => ?_)
            try replace hA15 := hA15.turn ht13 (by intro e; exact hz10 _ e rfl)
            try have hz13 : ∀ k, (Value.slice a13 n13 c13).ownBlock = some k → k ≠ z := by intro k hk; rcases hk13 k hk with e | e <;> first | exact hz10 k e | omega
            try replace hg8b := Nat.lt_of_lt_of_le hg8b hB.size
            try replace hg12b := Nat.lt_of_lt_of_le hg12b hB.size
            try replace hzb := Nat.lt_of_lt_of_le hzb hB.size
            clear hK K
            try simp only [Act.put, La1, La2, La3]
            refine tk (i := 14) (oi := ⟨some 165, .build 64 #[(0, .tmp 158), (1, .tmp 164)], 64, "ref.go:142", #[⟨7, .data⟩, ⟨13, .data⟩], none⟩) (v := .agg #[.int .i64 x.at_, .slice a13 n13 c13]) rfl (by kernel_rfl) (fun _ _ _ h => h) (Or.inl ⟨by rfl, ?_⟩) (by assumption) ?_
            ·
             intro wx hSw
             go_simp
             try with_reducible rfl
            try simp only [Act.put, La1, La2, La3]
            refine wpAnyH_ready (rs := [16]) (by kernel_rfl) (by simp) ?_
            refine AllReadyH.cons (o := ⟨none, .store 64 (.tmp 14) (.tmp 165), 0, "ref.go:142", #[⟨15, .data⟩, ⟨14, .data⟩, ⟨13, .chain⟩, ⟨0, .phase⟩, ⟨1, .phase⟩, ⟨2, .phase⟩, ⟨3, .phase⟩, ⟨4, .phase⟩, ⟨5, .phase⟩, ⟨6, .phase⟩, ⟨7, .phase⟩, ⟨8, .phase⟩, ⟨9, .phase⟩, ⟨10, .phase⟩, ⟨11, .phase⟩, ⟨12, .phase⟩, ⟨13, .phase⟩, ⟨14, .phase⟩, ⟨15, .phase⟩], none⟩) rfl (fun K hK => ?_) AllReadyH.nil
            ·
             refine step_storeA (by rfl) _ _ _ (by rfl) z _ #[.int .i64 x.at_, .slice a13 n13 c13] (by rfl) (by rfl) hA15 rfl (by kernel_rfl) (by simp [Value.oneCell']) ?_
             intro wl hA16 ht16
             refine hK.out _ _ (hHeld.trans (ht16.below hHeld.size (fun k hk e => by omega))) (fun hHeld => ?_)
             replace h13 := h13.turn ht16 (fun k hk e => hz13 k hk e)
             clear hK K
             try simp only [Act.put, La1, La2, La3]
             refine wpAnyH_done (by kernel_rfl) ?_ _
             go_wp2
             go_meet
             case rel => exact ⟨z, a13, n13, c13, rfl, hA16, h13, hz13, hHeld, by omega⟩
        ·
         refine step_bsP (by rfl) _ (by rfl) p (by rfl) wf.heap.size hHeld.size ?_
         intro g12 wl hg12 hg12b h12 hB
         refine hK.out _ _ (bt hHeld hB) (fun hHeld => ?_)
         try have hne : g12 ≠ g8 := by omega
         try replace hA15 := hA15.later hB
         try replace hE8 := hE8.later hB
         try replace h10 := h10.later hB
         try replace h13 := h13.later hB
         try replace hg8b := Nat.lt_of_lt_of_le hg8b hB.size
         try replace hzb := Nat.lt_of_lt_of_le hzb hB.size
         clear hK K
         try simp only [Act.put, La1, La2, La3]
         refine wpAnyH_ready (rs := [8]) (by kernel_rfl) (by simp) ?_
         refine AllReadyH.cons (o := ⟨some 159, .buildSlice 36 0 #[], 36, "ref.go:142", #[], none⟩) rfl (fun K hK => ?_) AllReadyH.nil
         ·
          refine step_b0P (by rfl) (by rfl) wf.heap.size hHeld.size ?_
          intro g8 wl hg8 hg8b hE8 hB
          refine hK.out _ _ (bt hHeld hB) (fun hHeld => ?_)
          try have hne : g12 ≠ g8 := by omega
          try have hz8 : z ≠ g8 := by omega
          try replace hA15 := hA15.later hB
          try replace h12 := h12.later hB
          try replace h10 := h10.later hB
          try replace h13 := h13.later hB
          try replace hg12b := Nat.lt_of_lt_of_le hg12b hB.size
          try replace hzb := Nat.lt_of_lt_of_le hzb hB.size
          clear hK K
          try simp only [Act.put, La1, La2, La3]
          refine wpAnyH_ready (rs := [10]) (by kernel_rfl) (by simp) ?_
          refine AllReadyH.cons (o := ⟨some 161, .call { callee := .builtin .append, args := #[.tmp 159, .tmp 160], argTypes := #[36, 36] }, 36, "ref.go:142", #[⟨8, .data⟩, ⟨9, .data⟩], none⟩) rfl (fun K hK => ?_) AllReadyH.nil
          ·
           refine step_appP (by rfl) _ _ (by rfl) (by rfl) (by rfl) hE8 (HRf.out.later hHeld) hHeld.size (by simp; omega) ?_
           intro a10 n10 c10 wl h10 ht10 hk10 hB
           refine hK.out _ _ (hHeld.trans hB) (fun hHeld => ?_)
           rw [List.nil_append] at h10
           try have hz10 : ∀ k, (Value.slice a10 n10 c10).ownBlock = some k → k ≠ z := by intro k hk; rcases hk10 k hk with e | e <;> first | omega | (have e2 : g8 = k := (by injection e); omega)
           try replace hA15 := hA15.turn ht10 (by intro e; have e2 : g8 = z := (by injection e); omega)
           try replace h12 := h12.turn ht10 (by intro k hk e; have e1 : g12 = k := (by injection hk); have e2 : g8 = k := (by injection e); omega)
           try replace hg8b := Nat.lt_of_lt_of_le hg8b hB.size
           try replace hg12b := Nat.lt_of_lt_of_le hg12b hB.size
           try replace hzb := Nat.lt_of_lt_of_le hzb hB.size
           clear hK K
           try simp only [Act.put, La1, La2, La3]
           refine wpAnyH_ready (rs := [13]) (by kernel_rfl) (by simp) ?_
           refine AllReadyH.cons (o := ⟨some 164, .call { callee := .builtin .append, args := #[.tmp 161, .tmp 163], argTypes := #[36, 36] }, 36, "ref.go:142", #[⟨10, .data⟩, ⟨12, .data⟩, ⟨10, .chain⟩], none⟩) rfl (fun K hK => ?_) AllReadyH.nil
           ·
            refine step_appP (by rfl) _ _ (by rfl) (by rfl) (by rfl) h10 h12 hHeld.size (by simp; omega) ?_
            intro a13 n13 c13 wl h13 ht13 hk13 hB
            refine hK.out _ _ (hHeld.trans hB) (fun hHeld => ?_)
            try replace hA15 := hA15.turn ht13 (by intro e; exact hz10 _ e rfl)
            try have hz13 : ∀ k, (Value.slice a13 n13 c13).ownBlock = some k → k ≠ z := by intro k hk; rcases hk13 k hk with e | e <;> first | exact hz10 k e | omega
            try replace hg8b := Nat.lt_of_lt_of_le hg8b hB.size
            try replace hg12b := Nat.lt_of_lt_of_le hg12b hB.size
            try replace hzb := Nat.lt_of_lt_of_le hzb hB.size
            clear hK K
            try simp only [Act.put, La1, La2, La3]
            refine tk (i := 14) (oi := ⟨some 165, .build 64 #[(0, .tmp 158), (1, .tmp 164)], 64, "ref.go:142", #[⟨7, .data⟩, ⟨13, .data⟩], none⟩) (v := .agg #[.int .i64 x.at_, .slice a13 n13 c13]) rfl (by kernel_rfl) (fun _ _ _ h => h) (Or.inl ⟨by rfl, ?_⟩) (by assumption) ?_
            ·
             intro wx hSw
             go_simp
             try with_reducible rfl
            try simp only [Act.put, La1, La2, La3]
            refine wpAnyH_ready (rs := [16]) (by kernel_rfl) (by simp) ?_
            refine AllReadyH.cons (o := ⟨none, .store 64 (.tmp 14) (.tmp 165), 0, "ref.go:142", #[⟨15, .data⟩, ⟨14, .data⟩, ⟨13, .chain⟩, ⟨0, .phase⟩, ⟨1, .phase⟩, ⟨2, .phase⟩, ⟨3, .phase⟩, ⟨4, .phase⟩, ⟨5, .phase⟩, ⟨6, .phase⟩, ⟨7, .phase⟩, ⟨8, .phase⟩, ⟨9, .phase⟩, ⟨10, .phase⟩, ⟨11, .phase⟩, ⟨12, .phase⟩, ⟨13, .phase⟩, ⟨14, .phase⟩, ⟨15, .phase⟩], none⟩) rfl (fun K hK => ?_) AllReadyH.nil
            ·
             refine step_storeA (by rfl) _ _ _ (by rfl) z _ #[.int .i64 x.at_, .slice a13 n13 c13] (by rfl) (by rfl) hA15 rfl (by kernel_rfl) (by simp [Value.oneCell']) ?_
             intro wl hA16 ht16
             refine hK.out _ _ (hHeld.trans (ht16.below hHeld.size (fun k hk e => by omega))) (fun hHeld => ?_)
             replace h13 := h13.turn ht16 (fun k hk e => hz13 k hk e)
             clear hK K
             try simp only [Act.put, La1, La2, La3]
             refine wpAnyH_done (by kernel_rfl) ?_ _
             go_wp2
             go_meet
             case rel => exact ⟨z, a13, n13, c13, rfl, hA16, h13, hz13, hHeld, by omega⟩
     case rest =>
      clear hc3 he0 hp0 hp1 hp2 hp3 hp4 hp5 hp6 hp7 hp8 hp9
      obtain ⟨z, an, nn, cn, rfl, hAz, hRn, hzn, hbc, hzf⟩ := hcut
      obtain ⟨wn, hwn⟩ : ∃ q, q = wc := ⟨wc, rfl⟩
      subst hwn
      have hKn := hKr.later hbc
      have hZn := hZr.later hbc
      have HDn : Hid (DR wn base (.slice (some ⟨g, off, none⟩) L.length cc) (L.map DP.e)) := HDf.out.later hbc
      have HRWn : Hid (∀ x ∈ L, RW wn base x.v x.ps) := fun y hy => (HRWf.out y hy).later hbc
      have HTn : Hid (Turn (fun k => k = K) w wn) := HTf.out.later hbc
      have hsn := hbc.size
      have HRN : Hid (RW wn wf.heap.size (.slice an nn cn) (x.ps ++ [p])) := hRn
      have hlm : (L.map DP.e).length = L.length := List.length_map _
      have hLn : L.map DP.e ≠ [] := fun e => by rw [e] at hlm; simp at hlm; omega
      have hone := one_list HRWn.out
      have HAz : Hid (At wn z #[.int .i64 x.at_, .slice an nn cn]) := hAz
      have hzl := hAz.1
      have hlm2 : ([] : List De).length + (L.map DP.e).length < 1000000 := by rw [hlm]; simp; omega
      clear hKr hZr hRn hAz hbc
      go_upto_region 29 with (first
       | (refine wpList_b0D rfl rfl wn.heap.size (Nat.le_refl _) ?_; intro g5 w5 hg5 hg5b hE5 hB5; have k5 := ((hKn.later hB5).2 3 _ rfl).1)
       | (at_builtin; refine wpList_appD rfl _ _ rfl rfl rfl hE5 (HDn.out.later hB5) hone hB5.size hlm2 ?_; intro a6 n6 c6 w6 hD6 ht6 hk6)
       | go_in)
      rw [List.nil_append] at hD6
      have hB6 : Below wn.heap.size wn w6 := hB5.trans (ht6.below hB5.size (fun k hk e => by have e2 : g5 = k := (by injection e); omega))
      obtain ⟨g6, c6', hv6, hc6, hg6, hg6b, hth6⟩ := hD6.there hLn
      injection hv6 with e1 e2 e3
      subst e1 e2 e3
      have HDS : Hid (∀ e : De, DR (w6.setCells g6 (k * 2) [.int .i64 e.1, e.2]) wn.heap.size (.slice (some ⟨g6, 0, none⟩) (L.map DP.e).length c6) ((L.map DP.e).set k e)) := fun e => hD6.set (by rw [hlm]; exact hlt) (hth6 k (by rw [hlm]; exact hlt)) e
      have hthk := hth6 k (by rw [hlm]; exact hlt)
      rw [hlm] at HDS hc6 ⊢
      clear hD6 ht6 hk6 hE5 hB5 k5 hth6 hlm2
      have hA6 := HAz.out.later hB6
      have hK6 := hKn.later hB6
      have hZ6 := hZn.later hB6
      have HR6 : Hid (RW w6 wf.heap.size (.slice an nn cn) (x.ps ++ [p])) := HRN.out.later hB6
      have hb6s := hB6.size
      obtain ⟨x0, -⟩ := hA6.2 0 _ rfl
      obtain ⟨x1, -⟩ := hA6.2 1 _ rfl
      go_upto_region 30 with (first
       | (refine wpList_store_mid rfl 64 _ _ rfl g6 (k * 2) #[.int .i64 x.at_, .slice an nn cn] rfl rfl hthk (by kernel_rfl) (by simp [Value.oneCell']) ?_)
       | go_in)
      have kt7 := turn_setCells g6 [.int .i64 x.at_, .slice an nn cn] (k * 2) w6
      have hD7 := HDS.out (x.at_, .slice an nn cn)
      have hK7 := hK6.turn kt7 (by omega)
      have hZ7 := hZ6.turn kt7 (by omega)
      have HR7 : Hid (RW (w6.setCells g6 (k * 2) [.int .i64 x.at_, .slice an nn cn]) wf.heap.size (.slice an nn cn) (x.ps ++ [p])) := HR6.out.turn kt7 (fun j hj e => by have := HRN.out.lt j hj; omega)
      have HO7 : Hid (∀ y ∈ L, RW (w6.setCells g6 (k * 2) [.int .i64 x.at_, .slice an nn cn]) base y.v y.ps) := fun y hy => ((HRWn.out y hy).later hB6).turn kt7 (fun j hj e => by have := (HRWn.out y hy).lt j hj; omega)
      have HT7 : Hid (Turn (fun k => k = K) w (w6.setCells g6 (k * 2) [.int .i64 x.at_, .slice an nn cn])) := (HTn.out.later hB6).step kt7 (fun j hj => by omega)
      have hs7 : (w6.setCells g6 (k * 2) [.int .i64 x.at_, .slice an nn cn]).heap.size ≥ w6.heap.size := Nat.le_of_eq (size_setCells g6 _ _ _).symm
      clear hA6 hK6 hZ6 x0 x1 hthk HDS kt7
      generalize w6.setCells g6 (k * 2) [.int .i64 x.at_, .slice an nn cn] = w7 at *
      have k3 := (hK7.2 3 _ rfl).1
      have f3 := (hK7.2 3 _ rfl).2
      go_upto_region 31 with fail
      have kt8 := turn_set w7 K 3 (.slice (some ⟨g6, 0, none⟩) L.length c6)
      have hK8 := hK7.set 3 (.slice (some ⟨g6, 0, none⟩) L.length c6)
      have hZ8 := hZ7.turn kt8 (by omega)
      have hD8 := hD7.turn kt8 (fun j hj _ e => by omega)
      have HRT : Hid (RW (w7.setCell ⟨K, 3, none⟩ (.slice (some ⟨g6, 0, none⟩) L.length c6)) wf.heap.size (.slice an nn cn) (x.ps ++ [p])) := HR7.out.turn kt8 (fun j hj e => by have := HR7.out.ge j hj; omega)
      have HO8' : Hid (∀ y ∈ L, RW (w7.setCell ⟨K, 3, none⟩ (.slice (some ⟨g6, 0, none⟩) L.length c6)) base y.v y.ps) := fun y hy => (HO7.out y hy).turn kt8 (fun j hj e => by have := (HO7.out y hy).ge j hj; omega)
      have HT8 : Hid (Turn (fun k => k = K) w (w7.setCell ⟨K, 3, none⟩ (.slice (some ⟨g6, 0, none⟩) L.length c6))) := HT7.out.trans kt8
      have hs8 := kt8.size
      clear hK7 hZ7 hD7 k3 f3 kt8
      generalize w7.setCell ⟨K, 3, none⟩ (.slice (some ⟨g6, 0, none⟩) L.length c6) = w8 at *
      have HX8 : Hid (DX w8 K base ro pa now (.slice (some ⟨g6, 0, none⟩) L.length c6) (L.set k ⟨x.at_, .slice an nn cn, x.ps ++ [p]⟩)) := by
       refine ⟨hK8, ?_, fun y hy => ?_, hkb, by omega⟩
       ·
        rw [List.map_set]
        exact hD8.low (by omega)
       ·
        rcases List.mem_or_eq_of_mem_set hy with h | h
        · exact HO8'.out y h
        · rw [h]; exact HRT.out.low (by omega)
      have HB8 : Hid (∀ j, (Value.slice (some ⟨g6, 0, none⟩) L.length c6).ownBlock = some j → w.heap.size + 2 ≤ j) := fun j hj => by injection hj with hj; subst hj; show w.heap.size + 2 ≤ g6; omega
      have HN8 : Hid (∀ y ∈ L.set k ⟨x.at_, .slice an nn cn, x.ps ++ [p]⟩, y ∈ L ∨ ∀ j, y.v.ownBlock = some j → w.heap.size + 2 ≤ j) := fun y hy => by
       rcases List.mem_or_eq_of_mem_set hy with h | h
       · exact Or.inl h
       · exact Or.inr (fun j hj => by rw [h] at hj; have := HRT.out.ge j hj; omega)
      have HKN : Hid (((L.set k ⟨x.at_, .slice an nn cn, x.ps ++ [p]⟩).map DP.e)[k]? = some (x.at_, .slice an nn cn)) := by
       show _ = _
       rw [List.getElem?_map, List.getElem?_set_self hlt]
       rfl
      have HOL : Hid (∀ x ∈ L, ∀ j, x.v.ownBlock = some j → j < w.heap.size) := fun y hy j hj => (HOK.out.2 y hy).lt j hj
      have HO8 : Hid (∀ x ∈ L.take k ++ L.drop (k + 1), RW w8 base x.v x.ps) := fun y hy => HO8'.out y (cut_mem hy)
      have hkw : K < w.heap.size := by omega
      have hlt64 : x.ps.length < 64 := by
       have h := HFT.out x HLX.out
       unfold rfitsB at h
       rw [Bool.and_eq_true, Bool.and_eq_true] at h
       exact of_decide_eq_true h.1.1
      have hlenT : (x.ps ++ [p]).length ≤ 1000 := by rw [List.length_append]; simp; omega
      have HFT2 : Hid (∀ q ∈ x.ps ++ [p], q.Fine) := fun q hq => (List.mem_append.1 hq).elim (HFX.out q) (fun h => by rw [List.mem_singleton.1 h]; exact hp)
      have hlen8 : (L.set k ⟨x.at_, .slice an nn cn, x.ps ++ [p]⟩).length ≤ 1000 := by rw [List.length_set]; omega
      have hk8 : k < (L.set k ⟨x.at_, .slice an nn cn, x.ps ++ [p]⟩).length := by rw [List.length_set]; exact hlt
      clear hK8 hD8
      have k3 := (HX8.out.box.2 3 _ rfl).1
      have e1 := (HX8.out.list.elem HKN.out).2
      go_wp2_with fail
      refine (joined_any (x.ps ++ [p]) _ _ w8 HRT.out hlenT HFT2.out).mono ?_
      rintro e w9 ⟨d, rfl, hch, hgo, l9⟩
      have HCH : Hid (Ch (x.ps ++ [p]) d ∧ ∀ q ∈ x.ps ++ [p], goesOn d.size q = false) := ⟨hch, hgo⟩
      clear hch hgo
      replace k3 := later l9 k3
      replace e1 := later l9 e1
      have hRT9 := HRT.out.later l9
      have hF := first_any (x.ps ++ [p]) _ _ w9 hRT9 hlenT
      have hZ9 := hZ8.later l9
      have hs9 := l9.size
      obtain ⟨dn, hdn⟩ : ∃ b, b = decide ((d.size : Int) = lastE (x.ps ++ [p]) (-1)) := ⟨_, rfl⟩
      rw [← hdn]
      have HDX : Hid (dn = decide ((d.size : Int) = lastE (x.ps ++ [p]) (-1))) := hdn
      clear hdn hRT9
      cases hfl : firstL (x.ps ++ [p]) with
      | none =>
       have hfv : firstV (x.ps ++ [p]) = .tuple #[.agg #[.int .i64 0, .int .i64 0, .int .i64 0, .int .i64 0, .int .i64 0, .int .i64 0, .bool false, .bool false, .string ⟨#[]⟩, .string ⟨#[]⟩], .bool false] := by unfold firstV; rw [hfl]
       have HFL : Hid (firstL (x.ps ++ [p]) = none) := hfl
       rw [hfv] at hF
       clear hfv hfl
       go_wp2_with fail
       refine hF.mono ?_
       rintro e w2 ⟨rfl, hb2⟩
       go_upto_region 33 with (first
        | (refine wpList_store_at rfl 32 _ _ rfl _ w2.heap.size #[.int .i64 0, .int .i64 0, .int .i64 0, .int .i64 0, .int .i64 0, .int .i64 0, .bool false, .bool false, .string ⟨#[]⟩, .string ⟨#[]⟩] #[.int .i64 0, .int .i64 0, .int .i64 0, .int .i64 0, .int .i64 0, .int .i64 0, .bool false, .bool false, .string ⟨#[]⟩, .string ⟨#[]⟩] rfl rfl (At.box w2 #[.int .i64 0, .int .i64 0, .int .i64 0, .int .i64 0, .int .i64 0, .int .i64 0, .bool false, .bool false, .string ⟨#[]⟩, .string ⟨#[]⟩] 32) rfl (by kernel_rfl) oneZ ?_; intro w4 hQ4 ht4)
        | go_in)
       have q4 : Below w2.heap.size w2 w4 := (bel1 w2 (.cells #[.int .i64 0, .int .i64 0, .int .i64 0, .int .i64 0, .int .i64 0, .int .i64 0, .bool false, .bool false, .string ⟨#[]⟩, .string ⟨#[]⟩] 32)).trans (below_turn ht4 (Nat.le_refl _) (bel1 w2 _).size)
       have hb4 := bt l9 (bt hb2 q4)
       have hZb := hZ8.later hb4
       have HXb0 := HX8.out.later hb4
       have HXb : Hid _ := HXb0
       clear HXb0
       have HTb : Hid (Turn (fun k => k = K) w w4) := HT8.out.later hb4
       clear hQ4 ht4 q4 hb2 hb4 hZ9 hF k3 e1
       have WHYN : firstL (x.ps ++ [p]) = none ∨ decide ((d.size : Int) = lastE (x.ps ++ [p]) (-1)) = false := Or.inl HFL.out
       cases dn with
       | false =>
        go_wp2_with (first
         | (refine wpList_store_at rfl 32 _ _ rfl _ (w.heap.size + 1) #[.int .i64 0, .int .i64 0, .int .i64 0, .int .i64 0, .int .i64 0, .int .i64 0, .bool false, .bool false, .string ⟨#[]⟩, .string ⟨#[]⟩] #[.int .i64 0, .int .i64 0, .int .i64 0, .int .i64 0, .int .i64 0, .int .i64 0, .bool false, .bool false, .string ⟨#[]⟩, .string ⟨#[]⟩] rfl rfl hZb rfl (by kernel_rfl) oneZ ?_; intro w5 hZ5 ht5))
        have r0 := (hZ5.2 0 _ rfl).1
        have r1 := (hZ5.2 1 _ rfl).1
        have r2 := (hZ5.2 2 _ rfl).1
        have r3 := (hZ5.2 3 _ rfl).1
        have r4 := (hZ5.2 4 _ rfl).1
        have r5 := (hZ5.2 5 _ rfl).1
        have r6 := (hZ5.2 6 _ rfl).1
        have r7 := (hZ5.2 7 _ rfl).1
        have r8 := (hZ5.2 8 _ rfl).1
        have r9 := (hZ5.2 9 _ rfl).1
        have HE := tkb_fin (z := w.heap.size + 1) (by omega) (by omega) HXb.out HB8.out HN8.out HOL.out HTb.out hkw ht5
        exact bodyPost_ret (v := .tuple #[.agg #[.int .i64 0, .int .i64 0, .int .i64 0, .int .i64 0, .int .i64 0, .int .i64 0, .bool false, .bool false, .string ⟨#[]⟩, .string ⟨#[]⟩], .bool false, .int .i64 0]) (by simp [results, Try.results14, go_sem, r0, r1, r2, r3, r4, r5, r6, r7, r8, r9]) rfl ⟨d, HCH.out.1, HCH.out.2, Or.inr ⟨WHYN, rfl, _, HE⟩⟩
       | true =>
        go_wp2_with (first
         | (refine wpList_store_at rfl 32 _ _ rfl _ (w.heap.size + 1) #[.int .i64 0, .int .i64 0, .int .i64 0, .int .i64 0, .int .i64 0, .int .i64 0, .bool false, .bool false, .string ⟨#[]⟩, .string ⟨#[]⟩] #[.int .i64 0, .int .i64 0, .int .i64 0, .int .i64 0, .int .i64 0, .int .i64 0, .bool false, .bool false, .string ⟨#[]⟩, .string ⟨#[]⟩] rfl rfl hZb rfl (by kernel_rfl) oneZ ?_; intro w5 hZ5 ht5))
        have r0 := (hZ5.2 0 _ rfl).1
        have r1 := (hZ5.2 1 _ rfl).1
        have r2 := (hZ5.2 2 _ rfl).1
        have r3 := (hZ5.2 3 _ rfl).1
        have r4 := (hZ5.2 4 _ rfl).1
        have r5 := (hZ5.2 5 _ rfl).1
        have r6 := (hZ5.2 6 _ rfl).1
        have r7 := (hZ5.2 7 _ rfl).1
        have r8 := (hZ5.2 8 _ rfl).1
        have r9 := (hZ5.2 9 _ rfl).1
        have HE := tkb_fin (z := w.heap.size + 1) (by omega) (by omega) HXb.out HB8.out HN8.out HOL.out HTb.out hkw ht5
        exact bodyPost_ret (v := .tuple #[.agg #[.int .i64 0, .int .i64 0, .int .i64 0, .int .i64 0, .int .i64 0, .int .i64 0, .bool false, .bool false, .string ⟨#[]⟩, .string ⟨#[]⟩], .bool false, .int .i64 0]) (by simp [results, Try.results14, go_sem, r0, r1, r2, r3, r4, r5, r6, r7, r8, r9]) rfl ⟨d, HCH.out.1, HCH.out.2, Or.inr ⟨WHYN, rfl, _, HE⟩⟩
      | some q =>
       have hfv : firstV (x.ps ++ [p]) = .tuple #[.agg #[.int .i64 q.f, .int .i64 q.t, .int .i64 q.tl, .int .i64 q.pr, .int .i64 q.id, .int .i64 q.fr, .bool q.mo, .bool q.dn, .string q.op, .string q.da], .bool true] := by unfold firstV; rw [hfl]
       have HFL : Hid (firstL (x.ps ++ [p]) = some q) := hfl
       rw [hfv] at hF
       clear hfv hfl
       have hoq := oneQ q
       go_wp2_with fail
       refine hF.mono ?_
       rintro e w2 ⟨rfl, hb2⟩
       go_upto_region 33 with (first
        | (refine wpList_store_at rfl 32 _ _ rfl _ w2.heap.size #[.int .i64 0, .int .i64 0, .int .i64 0, .int .i64 0, .int .i64 0, .int .i64 0, .bool false, .bool false, .string ⟨#[]⟩, .string ⟨#[]⟩] #[.int .i64 q.f, .int .i64 q.t, .int .i64 q.tl, .int .i64 q.pr, .int .i64 q.id, .int .i64 q.fr, .bool q.mo, .bool q.dn, .string q.op, .string q.da] rfl rfl (At.box w2 #[.int .i64 0, .int .i64 0, .int .i64 0, .int .i64 0, .int .i64 0, .int .i64 0, .bool false, .bool false, .string ⟨#[]⟩, .string ⟨#[]⟩] 32) rfl (by kernel_rfl) hoq ?_; intro w4 hQ4 ht4)
        | go_in)
       have q4 : Below w2.heap.size w2 w4 := (bel1 w2 (.cells #[.int .i64 0, .int .i64 0, .int .i64 0, .int .i64 0, .int .i64 0, .int .i64 0, .bool false, .bool false, .string ⟨#[]⟩, .string ⟨#[]⟩] 32)).trans (below_turn ht4 (Nat.le_refl _) (bel1 w2 _).size)
       have hb4 := bt l9 (bt hb2 q4)
       have hZb := hZ8.later hb4
       have HXb0 := HX8.out.later hb4
       have HXb : Hid _ := HXb0
       clear HXb0
       have HTb : Hid (Turn (fun k => k = K) w w4) := HT8.out.later hb4
       have hw28 : w8.heap.size ≤ w2.heap.size := Nat.le_trans hs9 hb2.size
       have k3b := (HXb.out.box.2 3 _ rfl).1
       have HOW : Hid (∀ x ∈ L.take k ++ L.drop (k + 1), RW w4 base x.v x.ps) := fun y hy => (HO8.out y hy).later hb4
       clear ht4 q4 hb2 hb4 hZ9 hF k3 e1
       obtain ⟨wb, hwb⟩ : ∃ x, x = w4 := ⟨w4, rfl⟩
       subst hwb
       have hQb := hQ4
       clear hQ4
       generalize w2.heap.size = nb at *
       cases dn with
       | false =>
        clear k3b hQb
        have WHYN : firstL (x.ps ++ [p]) = none ∨ decide ((d.size : Int) = lastE (x.ps ++ [p]) (-1)) = false := Or.inr HDX.out.symm
        go_wp2_with (first
         | (refine wpList_store_at rfl 32 _ _ rfl _ (w.heap.size + 1) #[.int .i64 0, .int .i64 0, .int .i64 0, .int .i64 0, .int .i64 0, .int .i64 0, .bool false, .bool false, .string ⟨#[]⟩, .string ⟨#[]⟩] #[.int .i64 0, .int .i64 0, .int .i64 0, .int .i64 0, .int .i64 0, .int .i64 0, .bool false, .bool false, .string ⟨#[]⟩, .string ⟨#[]⟩] rfl rfl hZb rfl (by kernel_rfl) oneZ ?_; intro w5 hZ5 ht5))
        have r0 := (hZ5.2 0 _ rfl).1
        have r1 := (hZ5.2 1 _ rfl).1
        have r2 := (hZ5.2 2 _ rfl).1
        have r3 := (hZ5.2 3 _ rfl).1
        have r4 := (hZ5.2 4 _ rfl).1
        have r5 := (hZ5.2 5 _ rfl).1
        have r6 := (hZ5.2 6 _ rfl).1
        have r7 := (hZ5.2 7 _ rfl).1
        have r8 := (hZ5.2 8 _ rfl).1
        have r9 := (hZ5.2 9 _ rfl).1
        have HE := tkb_fin (z := w.heap.size + 1) (by omega) (by omega) HXb.out HB8.out HN8.out HOL.out HTb.out hkw ht5
        exact bodyPost_ret (v := .tuple #[.agg #[.int .i64 0, .int .i64 0, .int .i64 0, .int .i64 0, .int .i64 0, .int .i64 0, .bool false, .bool false, .string ⟨#[]⟩, .string ⟨#[]⟩], .bool false, .int .i64 0]) (by simp [results, Try.results14, go_sem, r0, r1, r2, r3, r4, r5, r6, r7, r8, r9]) rfl ⟨d, HCH.out.1, HCH.out.2, Or.inr ⟨WHYN, rfl, _, HE⟩⟩
       | true =>
        have HDN : Hid (decide ((d.size : Int) = lastE (x.ps ++ [p]) (-1)) = true) := HDX.out.symm
        have HRb : Hid (∀ y ∈ (L.set k ⟨x.at_, .slice an nn cn, x.ps ++ [p]⟩), RW wb base y.v y.ps) := HXb.out.ok
        have hwo := without_any K base ro pa now _ ((L.set k ⟨x.at_, .slice an nn cn, x.ps ++ [p]⟩).map DP.e) wb HXb.out.box HXb.out.list (one_list HRb.out) (by rw [List.length_map]; exact hlen8) k (by rw [List.length_map]; exact hk8)
        clear k3b
        go_wp2_with fail
        refine hwo.mono ?_
        rintro e wg ⟨v8, rfl, hdo, lg⟩
        rw [map_cut, cut_set] at hdo
        obtain ⟨p8, n8, c8, h8⟩ := hdo.dr.shape
        subst h8
        have hKg := HXb.out.box.later lg
        have hZg := hZb.later lg
        have hQg := hQb.later lg
        have hsg := lg.size
        have kt := turn_set wg K 3 (.slice p8 n8 c8)
        have hZg2 := hZg.turn kt (by omega)
        have hQg2 := hQg.turn kt (by omega)
        have hsb : w.heap.size + 1 < wb.heap.size := hZb.1
        have hbq : ∀ j, (Value.slice p8 n8 c8).ownBlock = some j → j ≠ nb := fun j hj e => by have := hdo.ge j hj; have := hQb.1; omega
        have HBQ : Hid (∀ j, (Value.slice p8 n8 c8).ownBlock = some j → j ≠ nb) := hbq
        clear hbq
        have HEND : Hid (DX (wg.setCell ⟨K, 3, none⟩ (.slice p8 n8 c8)) K base ro pa now (.slice p8 n8 c8) (L.take k ++ L.drop (k + 1)) ∧ (∀ j, (Value.slice p8 n8 c8).ownBlock = some j → w.heap.size + 2 ≤ j) ∧ Turn (fun k => k = K) w (wg.setCell ⟨K, 3, none⟩ (.slice p8 n8 c8))) := by
         have hbb := HXb.out.bw
         refine ⟨⟨hKg.set 3 _, (hdo.dr.low (by omega)).turn kt (fun j hj _ e => by omega), fun y hy => ((HOW.out y hy).later lg).turn kt (fun j hj e => by have := ((HOW.out y hy).ge j hj); omega), hkb, by have := kt.size; omega⟩, fun j hj => by have := hdo.ge j hj; omega, (HTb.out.later lg).trans kt⟩
        have k3 := (hKg.2 3 _ rfl).1
        have f3 := (hKg.2 3 _ rfl).2
        have k9 := (hQg2.2 9 _ rfl).1
        have f9 := (hQg2.2 9 _ rfl).2
        have hQ9 := hQg2.set 9 (.string d)
        have k6 := (hQ9.2 6 _ rfl).1
        have f6 := (hQ9.2 6 _ rfl).2
        have hQ6 : At (((wg.setCell ⟨K, 3, none⟩ (.slice p8 n8 c8)).setCell ⟨nb, 9, none⟩ (.string d)).setCell ⟨nb, 6, none⟩ (.bool false)) nb #[.int .i64 q.f, .int .i64 q.t, .int .i64 q.tl, .int .i64 q.pr, .int .i64 q.id, .int .i64 q.fr, .bool false, .bool q.dn, .string q.op, .string d] := hQ9.set 6 (.bool false)
        have ktq : Turn (fun k => k = nb) (wg.setCell ⟨K, 3, none⟩ (.slice p8 n8 c8)) (((wg.setCell ⟨K, 3, none⟩ (.slice p8 n8 c8)).setCell ⟨nb, 9, none⟩ (.string d)).setCell ⟨nb, 6, none⟩ (.bool false)) := (turn_set _ nb 9 _).trans (turn_set _ nb 6 _)
        clear hwo hdo hZg hQg hZb hQb hQg2 hQ9 hKg kt
        go_upto_region 38 with fail
        clear k3 f3 k9 f9 k6 f6
        have hZ9 := hZg2.turn ktq (by omega)
        have hhb : w.heap.size + 2 ≤ nb := by omega
        obtain ⟨HEa, HEb, HEc⟩ := HEND.out
        have HD9 : Hid (DX (((wg.setCell ⟨K, 3, none⟩ (.slice p8 n8 c8)).setCell ⟨nb, 9, none⟩ (.string d)).setCell ⟨nb, 6, none⟩ (.bool false)) K base ro pa now (.slice p8 n8 c8) (L.take k ++ L.drop (k + 1)) ∧ Turn (fun k => k = K) w (((wg.setCell ⟨K, 3, none⟩ (.slice p8 n8 c8)).setCell ⟨nb, 9, none⟩ (.string d)).setCell ⟨nb, 6, none⟩ (.bool false))) := by
         refine ⟨⟨HEa.box.turn ktq (by omega), HEa.list.turnB ktq (fun j hj e => by exact HBQ.out j hj e), fun y hy => (HEa.ok y hy).turn ktq (fun j hj e => by have := HOL.out y (cut_mem hy) j hj; omega), hkb, by have := ktq.size; have := HEa.bw; omega⟩, HEc.step ktq (fun j hj => by omega)⟩
        clear HEa HEc hZg2 ktq
        generalize ((wg.setCell ⟨K, 3, none⟩ (.slice p8 n8 c8)).setCell ⟨nb, 9, none⟩ (.string d)).setCell ⟨nb, 6, none⟩ (.bool false) = wz at *
        have hoh := hone_head q d
        go_wp2_with (first
         | (refine wpList_load_at rfl 32 _ rfl _ nb #[.int .i64 q.f, .int .i64 q.t, .int .i64 q.tl, .int .i64 q.pr, .int .i64 q.id, .int .i64 q.fr, .bool false, .bool q.dn, .string q.op, .string d] _ rfl hQ6 Try.underlying32 (by kernel_rfl) ?_)
         | (refine wpList_store_at rfl 32 _ _ rfl _ (w.heap.size + 1) #[.int .i64 0, .int .i64 0, .int .i64 0, .int .i64 0, .int .i64 0, .int .i64 0, .bool false, .bool false, .string ⟨#[]⟩, .string ⟨#[]⟩] #[.int .i64 q.f, .int .i64 q.t, .int .i64 q.tl, .int .i64 q.pr, .int .i64 q.id, .int .i64 q.fr, .bool false, .bool q.dn, .string q.op, .string d] rfl rfl hZ9 rfl (by kernel_rfl) hoh ?_; intro w5 hZ5 ht5))
        have r0 := (hZ5.2 0 _ rfl).1
        have r1 := (hZ5.2 1 _ rfl).1
        have r2 := (hZ5.2 2 _ rfl).1
        have r3 := (hZ5.2 3 _ rfl).1
        have r4 := (hZ5.2 4 _ rfl).1
        have r5 := (hZ5.2 5 _ rfl).1
        have r6 := (hZ5.2 6 _ rfl).1
        have r7 := (hZ5.2 7 _ rfl).1
        have r8 := (hZ5.2 8 _ rfl).1
        have r9 := (hZ5.2 9 _ rfl).1
        have HE := tkb_fin (z := w.heap.size + 1) (by omega) (by omega) HD9.out.1 HEb (fun y hy => Or.inl (cut_mem hy)) HOL.out HD9.out.2 hkw ht5
        exact bodyPost_ret (v := .tuple #[.agg #[.int .i64 q.f, .int .i64 q.t, .int .i64 q.tl, .int .i64 q.pr, .int .i64 q.id, .int .i64 q.fr, .bool false, .bool q.dn, .string q.op, .string d], .bool true, .int .i64 0]) (by simp [results, Try.results14, go_sem, r0, r1, r2, r3, r4, r5, r6, r7, r8, r9]) rfl ⟨d, HCH.out.1, HCH.out.2, Or.inl ⟨q, HFL.out, HDN.out, rfl, HE⟩⟩
end Go.Proofs.Ytcjhniehbafhpaa
