/- the texts Jo, in part, merged by program -/
import Derived.Test.YtcjhniehbafhpaaProg
import Derived.Test.YtcjhniehbafhpaaRows
import Derived.Deep.QuietTactic
import Derived.BigQuiet
import Derived.Deep.Cut
import Derived.Deep.CutRange
import Derived.WalkKit
import Derived.WalkSpells
import Derived.Laws.OwnMore
import Derived.Maps.RangeWalk
import Derived.Maps.OwnSet
import Derived.Maps.Ext
import Derived.Maps.Keyed
import Derived.DeepKeys4
import Derived.WalkSmall
import Derived.Deep.MidRow
import Derived.Deep.RegionWith
import Derived.OwnWalk
import Derived.Laws.CopyRow
import Derived.OrdersHeld
import Derived.Shelf.Spec.SlicesInsert
import Derived.Lib.AppendZerosOnto
import Derived.Maps.AppendAt
import Derived.Lib.Overlaps
import Derived.Shelf.Strings.BuilderK
import Derived.Laws.AppendOwn
import Derived.Laws.AppendOwnNone
import Derived.Carry
import Derived.Shelf.SlSortCmp.WholeK
import Derived.Great.BuildSlice
import Derived.Shelf.SlSortCmp.NoneTotal
import Derived.Deep.RegionHeld3
import Derived.LoopN
import Derived.Test.YtcjhniehbafhpaaMA01
import Derived.Test.YtcjhniehbafhpaaMA02
import Derived.Test.YtcjhniehbafhpaaMA03
import Derived.Test.YtcjhniehbafhpaaMA04
import Derived.Test.YtcjhniehbafhpaaMA05
import Derived.Test.YtcjhniehbafhpaaMA06
import Derived.Test.YtcjhniehbafhpaaMA07
import Derived.Test.YtcjhniehbafhpaaMA08
import Derived.Test.YtcjhniehbafhpaaMA09
import Derived.Test.YtcjhniehbafhpaaMA10
import Derived.Test.YtcjhniehbafhpaaMA11
import Derived.Test.YtcjhniehbafhpaaMA12
import Derived.Test.YtcjhniehbafhpaaMA13
import Derived.Test.YtcjhniehbafhpaaMA15
import Derived.Test.YtcjhniehbafhpaaMA16
import Derived.Test.YtcjhniehbafhpaaMA17
namespace Go.Proofs.Ytcjhniehbafhpaa
open Go.RowKit Go.Maps
set_option maxRecDepth 100000
set_option linter.unusedVariables false
set_option linter.unusedSimpArgs false

theorem cut_snoc {L : List DP} {y : DP} {k : Nat} (h : k = L.length) : (L ++ [y]).take k ++ (L ++ [y]).drop (k + 1) = L := by
 subst h
 simp
set_option maxHeartbeats 16000000 in
theorem rtake_new (p : Pk) (hmay : p.may = true) {w : World} {K base : Nat} {ro pa la : Int} {v : Value} {L : List DP} (h : DX w K base ro pa la v L) (now : Int) (hn1 : la ≤ now) (hn2 : now ≤ 1099511627776) (hwh : wholeB p.fr p.mo = false) (hll : L.length ≤ 64) (hno : ∀ x ∈ L, ∃ q, x.ps[0]? = some q ∧ mk q ≠ mk p) (hroom : (L.length : Int) < ro) (hfit : rfitsB [] p = true) :
  Calls Try.prog 14 #[.pointer (some ⟨K, 0, none⟩), .agg #[.int .i64 p.f, .int .i64 p.t, .int .i64 p.tl, .int .i64 p.pr, .int .i64 p.id, .int .i64 p.fr, .bool p.mo, .bool p.dn, .string p.op, .string p.da], .int .i64 now] w fun e w' => FP [p] w w' e K base ro pa now L (fun vx => L ++ [⟨now, vx, [p]⟩]) L := by
 have HNO : Hid (∀ x ∈ L, ∃ q, x.ps[0]? = some q ∧ mk q ≠ mk p) := hno
 have HFT : Hid (rfitsB [] p = true) := hfit
 clear hno hfit
 have hp := may_fine hmay
 have ho : p.op.size ≤ 1125899906842624 := by have := hp.ol; omega
 have hd : p.da.size ≤ 1125899906842624 := by have := hp.dl; omega
 have hPb := (At.box w #[.int .i64 p.f, .int .i64 p.t, .int .i64 p.tl, .int .i64 p.pr, .int .i64 p.id, .int .i64 p.fr, .bool p.mo, .bool p.dn, .string p.op, .string p.da] 32).later (bel1 _ (.cells #[.int .i64 0, .int .i64 0, .int .i64 0, .int .i64 0, .int .i64 0, .int .i64 0, .bool false, .bool false, .string ⟨#[]⟩, .string ⟨#[]⟩] 32))
 have hZb := At.box2 w (.cells #[.int .i64 p.f, .int .i64 p.t, .int .i64 p.tl, .int .i64 p.pr, .int .i64 p.id, .int .i64 p.fr, .bool p.mo, .bool p.dn, .string p.op, .string p.da] 32) #[.int .i64 0, .int .i64 0, .int .i64 0, .int .i64 0, .int .i64 0, .int .i64 0, .bool false, .bool false, .string ⟨#[]⟩, .string ⟨#[]⟩] 32
 have hl0 := bt (bel1 w (.cells #[.int .i64 p.f, .int .i64 p.t, .int .i64 p.tl, .int .i64 p.pr, .int .i64 p.id, .int .i64 p.fr, .bool p.mo, .bool p.dn, .string p.op, .string p.da] 32)) (bel1 _ (.cells #[.int .i64 0, .int .i64 0, .int .i64 0, .int .i64 0, .int .i64 0, .int .i64 0, .bool false, .bool false, .string ⟨#[]⟩, .string ⟨#[]⟩] 32))
 have hK := h.box
 have hT := h.list
 have hbw := h.bw
 have hkb := h.kb
 have HOK : Hid (DR w base v (L.map DP.e) ∧ ∀ x ∈ L, RW w base x.v x.ps) := ⟨hT, h.ok⟩
 obtain ⟨pp, n, cc, hv⟩ := hT.shape
 have hnl : n = L.length := by
  rcases hT with ⟨h1, h2⟩ | ⟨g, off, c, h1, -⟩
  ·
   rw [hv] at h1
   injection h1 with _ h1
   rw [h1, ← List.length_map (f := DP.e), h2]
   rfl
  ·
   rw [hv] at h1
   injection h1 with _ h1
   rw [h1, List.length_map]
 subst hnl
 subst hv
 replace hK := hK.later hl0
 clear h hT
 go_enter Try.func14, Try.ntmps14
 go_upto_region 1 with fail
 generalize (w.alloc (.cells #[.int .i64 p.f, .int .i64 p.t, .int .i64 p.tl, .int .i64 p.pr, .int .i64 p.id, .int .i64 p.fr, .bool p.mo, .bool p.dn, .string p.op, .string p.da] 32)).alloc (.cells #[.int .i64 0, .int .i64 0, .int .i64 0, .int .i64 0, .int .i64 0, .int .i64 0, .bool false, .bool false, .string ⟨#[]⟩, .string ⟨#[]⟩] 32) = W0 at *
 go_wp2_with (first | (refine wpList_load_at rfl 32 _ rfl _ w.heap.size #[.int .i64 p.f, .int .i64 p.t, .int .i64 p.tl, .int .i64 p.pr, .int .i64 p.id, .int .i64 p.fr, .bool p.mo, .bool p.dn, .string p.op, .string p.da] _ rfl hPb Try.underlying32 (by kernel_rfl) ?_) | fail)
 refine (rchk_t (dn := p.dn) hmay _ ho hd).mono ?_
 rintro e w1 ⟨rfl, l1⟩
 replace hZb := hZb.later l1
 replace hl0 := bt hl0 l1
 replace hK := hK.later l1
 replace hPb := hPb.later l1
 clear l1
 go_wp2_with fail
 refine (rtime_t K ro pa la now _ w1 hK hn1 hn2).mono ?_
 rintro e w2 ⟨rfl, hK2, ht2⟩
 have hs0 := hl0.size
 have hP2 := hPb.turn ht2 (fun e => by omega)
 have hZ2 := hZb.turn ht2 (fun e => by omega)
 have HT2 : Hid (Turn (fun k => k = K) w w2) := ((Turn.of_below (S := fun k => k = K) hl0)).trans ht2
 clear hPb hZb hK ht2 hl0
 go_wp2_with (first | (refine wpList_load_at rfl 32 _ rfl _ w.heap.size #[.int .i64 p.f, .int .i64 p.t, .int .i64 p.tl, .int .i64 p.pr, .int .i64 p.id, .int .i64 p.fr, .bool p.mo, .bool p.dn, .string p.op, .string p.da] _ rfl hP2 Try.underlying32 (by kernel_rfl) ?_) | fail)
 refine (rwhl_any p.f p.t p.tl p.pr p.id p.fr p.mo p.dn p.op p.da w2).mono ?_
 rw [hwh]
 rintro e w3 ⟨rfl, l3⟩
 have hP3 := hP2.later l3
 have hZ3 := hZ2.later l3
 have hK3 := hK2.later l3
 have ht3 := HT2.out.later l3
 have HT3 : Hid (Turn (fun k => k = K) w w3) := ht3
 have HD3 : Hid (DR w3 base (.slice pp L.length cc) (L.map DP.e)) := HOK.out.1.turn ht3 (fun k hk _ e => by omega)
 have HR3 : Hid (∀ x ∈ L, RW w3 base x.v x.ps) := fun x hx => (HOK.out.2 x hx).turn ht3 (fun k hk e => by have := (HOK.out.2 x hx).ge k hk; omega)
 have hs3 := ht3.size
 have hs4 : w.heap.size + 1 < w3.heap.size := hZ3.1
 clear l3 hP2 hZ2 HT2 hK2 ht3
 have hli : (L.length : Int) ≤ 64 := by omega
 go_wp2
 go_loopw [11] (fun vi wr => ∃ k : Nat, k ≤ L.length ∧ vi = .int .i64 (k : Int) ∧ Below w3.heap.size w3 wr) (fun vi _ => L.length - (intOf vi).toNat)
 case atStart => exact ⟨0, Nat.zero_le _, rfl, Below.refl _ _⟩
 case round =>
  obtain ⟨k, hk, rfl, hb⟩ := hrel
  by_cases hlt : k < L.length
  ·
   skip
   obtain ⟨x, hx⟩ : ∃ x, L[k]? = some x := ⟨L[k], List.getElem?_eq_getElem hlt⟩
   have hxl := List.mem_of_getElem? hx
   obtain ⟨q, hq, hmk⟩ := HNO.out x hxl
   have hrow := (HR3.out x hxl).later hb
   obtain ⟨gx, xc, hxv, hcl⟩ : ∃ gx xc, x.v = .slice (some ⟨gx, 0, none⟩) x.ps.length xc ∧ ∀ j u, q.L[j]? = some u → wr.cell? ⟨gx, j, none⟩ = some u := by
    obtain ⟨g, c', cur, hv, -⟩ := hrow.real (fun e => by rw [e] at hq; cases hq)
    refine ⟨g, c', hv, fun j u hu => ?_⟩
    rw [hv] at hrow
    have := hrow.cells hq j u hu
    simpa using this
   obtain ⟨g, off, rfl, hgw, e1⟩ : ∃ g off, pp = some ⟨g, off, none⟩ ∧ g < w3.heap.size ∧ w3.cell? ⟨g, off + k * 2 + 1, none⟩ = some x.v := by
    rcases HD3.out with ⟨-, h2⟩ | ⟨g, off, c, h1, -, -, h3, h4⟩
    · rw [List.map_eq_nil_iff] at h2; rw [h2] at hlt; exact absurd hlt (Nat.not_lt_zero _)
    ·
     injection h1 with h1
     have := h4 k x.e (by rw [List.getElem?_map, hx]; rfl)
     exact ⟨g, off, h1, h3, this.2⟩
   rw [hxv] at e1
   replace e1 := later hb e1
   clear hxv hrow
   have hKr := hK3.later hb
   have hPr := hP3.later hb
   obtain ⟨⟨a0, a1, a2, a3, a4, a5, a6, a7, a8, a9⟩, -, -⟩ := hPr.ten
   have c3 := (hKr.2 3 _ rfl).1
   have hc3 : ∀ wx, Below wr.heap.size wr wx → wx.cell? ⟨K, 3, none⟩ = some (.slice (some ⟨g, off, none⟩) L.length cc) := fun wx h => later h c3
   have he1 : ∀ wx, Below wr.heap.size wr wx → wx.cell? ⟨g, off + k * 2 + 1, none⟩ = some (.slice (some ⟨gx, 0, none⟩) x.ps.length xc) := fun wx h => later h e1
   have hp0 := fun wx (h : Below wr.heap.size wr wx) => later h a0
   have hp1 := fun wx (h : Below wr.heap.size wr wx) => later h a1
   have hp2 := fun wx (h : Below wr.heap.size wr wx) => later h a2
   have hp3 := fun wx (h : Below wr.heap.size wr wx) => later h a3
   have hp4 := fun wx (h : Below wr.heap.size wr wx) => later h a4
   have hp5 := fun wx (h : Below wr.heap.size wr wx) => later h a5
   have hp6 := fun wx (h : Below wr.heap.size wr wx) => later h a6
   have hp7 := fun wx (h : Below wr.heap.size wr wx) => later h a7
   have hp8 := fun wx (h : Below wr.heap.size wr wx) => later h a8
   have hp9 := fun wx (h : Below wr.heap.size wr wx) => later h a9
   have hq0 := fun wx (h : Below wr.heap.size wr wx) => later h (hcl 0 _ rfl)
   have hq1 := fun wx (h : Below wr.heap.size wr wx) => later h (hcl 1 _ rfl)
   have hq2 := fun wx (h : Below wr.heap.size wr wx) => later h (hcl 2 _ rfl)
   have hq3 := fun wx (h : Below wr.heap.size wr wx) => later h (hcl 3 _ rfl)
   have hq4 := fun wx (h : Below wr.heap.size wr wx) => later h (hcl 4 _ rfl)
   have hq5 := fun wx (h : Below wr.heap.size wr wx) => later h (hcl 5 _ rfl)
   have hq6 := fun wx (h : Below wr.heap.size wr wx) => later h (hcl 6 _ rfl)
   have hq7 := fun wx (h : Below wr.heap.size wr wx) => later h (hcl 7 _ rfl)
   have hq8 := fun wx (h : Below wr.heap.size wr wx) => later h (hcl 8 _ rfl)
   have hq9 := fun wx (h : Below wr.heap.size wr wx) => later h (hcl 9 _ rfl)
   have hk1 : (k : Int) < (L.length : Int) := by omega
   have hk3 : (0 : Int) ≤ (k : Int) := by omega
   have hxl0 : 0 < x.ps.length := by
    cases hps : x.ps with
    | nil => rw [hps] at hq; cases hq
    | cons _ _ => simp
   have hxl1 : (0 : Int) < (x.ps.length : Int) := by omega
   clear hx hxl hcl c3 e1 hKr hPr a0 a1 a2 a3 a4 a5 a6 a7 a8 a9
   have hdec : decide (mk q = mk p) = false := decide_eq_false hmk
   clear hmk hq
   go_upto_region 10 with fail
   refine wp_region_held_drew (S := (fun W => Below wr.heap.size wr W)) (by kernel_rfl) ?_ (fun hHeld => ?_)
   · first | exact (Below.refl _ _).drew | assumption
   refine tk (i := 0) (oi := ⟨some 36, .move (.tmp 11), 3, "ref.go:120", #[], none⟩) (v := .int .i64 (k : Int)) rfl (by kernel_rfl) (fun _ _ _ h => h) (Or.inl ⟨by rfl, ?_⟩) (by assumption) ?_
   ·
    intro wx hSw
    go_simp
    try with_reducible rfl
   try simp only [Act.put, La1, La2, La3]
   refine tk (i := 1) (oi := ⟨some 37, .move (.tmp 0), 27, "ref.go:120", #[], none⟩) (v := .pointer (some ⟨K, 0, none⟩)) rfl (by kernel_rfl) (fun _ _ _ h => h) (Or.inl ⟨by rfl, ?_⟩) (by assumption) ?_
   ·
    intro wx hSw
    go_simp
    try with_reducible rfl
   try simp only [Act.put, La1, La2, La3]
   refine tk (i := 2) (oi := ⟨some 38, .nilCheck (.tmp 37), 0, "ref.go:120", #[⟨1, .data⟩], none⟩) (v := .pointer (some ⟨K, 0, none⟩)) rfl (by kernel_rfl) (fun _ _ _ h => h) (Or.inl ⟨by rfl, ?_⟩) (by assumption) ?_
   ·
    intro wx hSw
    go_simp
    try with_reducible rfl
   try simp only [Act.put, La1, La2, La3]
   refine tk (i := 3) (oi := ⟨some 39, .fieldAddr 44 (.tmp 38) 3, 0, "ref.go:120", #[⟨2, .data⟩], none⟩) (v := .pointer (some ⟨K, 3, none⟩)) rfl (by kernel_rfl) (fun _ _ _ h => h) (Or.inl ⟨by rfl, ?_⟩) (by assumption) ?_
   ·
    intro wx hSw
    go_simp
    try with_reducible rfl
   try simp only [Act.put, La1, La2, La3]
   refine tk (i := 4) (oi := ⟨some 40, .load 42 (.tmp 39), 42, "ref.go:120", #[⟨3, .data⟩], none⟩) (v := .slice (some ⟨g, off, none⟩) L.length cc) rfl (by kernel_rfl) (fun _ _ _ h => h) (Or.inl ⟨by rfl, ?_⟩) (by assumption) ?_
   ·
    intro wx hSw
    try dsimp only at hSw
    have u3 := hc3 wx hSw
    have u1 := he1 wx hSw
    have u10 := hp0 wx hSw
    have u11 := hp1 wx hSw
    have u12 := hp2 wx hSw
    have u13 := hp3 wx hSw
    have u14 := hp4 wx hSw
    have u15 := hp5 wx hSw
    have u16 := hp6 wx hSw
    have u17 := hp7 wx hSw
    have u18 := hp8 wx hSw
    have u19 := hp9 wx hSw
    have u20 := hq0 wx hSw
    have u21 := hq1 wx hSw
    have u22 := hq2 wx hSw
    have u23 := hq3 wx hSw
    have u24 := hq4 wx hSw
    have u25 := hq5 wx hSw
    have u26 := hq6 wx hSw
    have u27 := hq7 wx hSw
    have u28 := hq8 wx hSw
    have u29 := hq9 wx hSw
    go_simp
    try with_reducible rfl
   try simp only [Act.put, La1, La2, La3]
   refine tk (i := 5) (oi := ⟨some 41, .call { callee := .builtin .len, args := #[.tmp 40], argTypes := #[42] }, 3, "ref.go:120", #[⟨4, .data⟩], none⟩) (v := .int .i64 (L.length : Int)) rfl (by kernel_rfl) (fun _ _ _ h => h) (Or.inl ⟨by rfl, ?_⟩) (by assumption) ?_
   ·
    intro wx hSw
    try dsimp only at hSw
    have u3 := hc3 wx hSw
    have u1 := he1 wx hSw
    have u10 := hp0 wx hSw
    have u11 := hp1 wx hSw
    have u12 := hp2 wx hSw
    have u13 := hp3 wx hSw
    have u14 := hp4 wx hSw
    have u15 := hp5 wx hSw
    have u16 := hp6 wx hSw
    have u17 := hp7 wx hSw
    have u18 := hp8 wx hSw
    have u19 := hp9 wx hSw
    have u20 := hq0 wx hSw
    have u21 := hq1 wx hSw
    have u22 := hq2 wx hSw
    have u23 := hq3 wx hSw
    have u24 := hq4 wx hSw
    have u25 := hq5 wx hSw
    have u26 := hq6 wx hSw
    have u27 := hq7 wx hSw
    have u28 := hq8 wx hSw
    have u29 := hq9 wx hSw
    go_simp
    try with_reducible rfl
   try simp only [Act.put, La1, La2, La3]
   refine tk (i := 6) (oi := ⟨some 42, .binOp .lss 3 (.tmp 36) (.tmp 41) 3, 4, "ref.go:120", #[⟨0, .data⟩, ⟨5, .data⟩], none⟩) (v := .bool true) rfl (by kernel_rfl) (fun _ _ _ h => h) (Or.inl ⟨by rfl, ?_⟩) (by assumption) ?_
   ·
    intro wx hSw
    go_simp
    try with_reducible rfl
   try simp only [Act.put, La1, La2, La3]
   refine tk (i := 7) (oi := ⟨some 43, .move (.tmp 42), 4, "ref.go:120", #[⟨6, .data⟩], none⟩) (v := .bool true) rfl (by kernel_rfl) (fun _ _ _ h => h) (Or.inl ⟨by rfl, ?_⟩) (by assumption) ?_
   ·
    intro wx hSw
    go_simp
    try with_reducible rfl
   try simp only [Act.put, La1, La2, La3]
   refine tk (i := 8) (oi := ⟨some 44, .move (.tmp 0), 27, "ref.go:120", #[⟨7, .guard⟩], some (7, true)⟩) (v := .pointer (some ⟨K, 0, none⟩)) rfl (by kernel_rfl) (fun _ _ _ h => h) (Or.inl ⟨by rfl, ?_⟩) (by assumption) ?_
   ·
    intro wx hSw
    go_simp
    try with_reducible rfl
   try simp only [Act.put, La1, La2, La3]
   refine tk (i := 9) (oi := ⟨some 45, .nilCheck (.tmp 44), 0, "ref.go:120", #[⟨8, .data⟩, ⟨7, .guard⟩], some (7, true)⟩) (v := .pointer (some ⟨K, 0, none⟩)) rfl (by kernel_rfl) (fun _ _ _ h => h) (Or.inl ⟨by rfl, ?_⟩) (by assumption) ?_
   ·
    intro wx hSw
    go_simp
    try with_reducible rfl
   try simp only [Act.put, La1, La2, La3]
   refine tk (i := 10) (oi := ⟨some 46, .fieldAddr 44 (.tmp 45) 3, 0, "ref.go:120", #[⟨9, .data⟩, ⟨7, .guard⟩], some (7, true)⟩) (v := .pointer (some ⟨K, 3, none⟩)) rfl (by kernel_rfl) (fun _ _ _ h => h) (Or.inl ⟨by rfl, ?_⟩) (by assumption) ?_
   ·
    intro wx hSw
    go_simp
    try with_reducible rfl
   try simp only [Act.put, La1, La2, La3]
   refine tk (i := 11) (oi := ⟨some 47, .load 42 (.tmp 46), 42, "ref.go:120", #[⟨10, .data⟩, ⟨7, .guard⟩], some (7, true)⟩) (v := .slice (some ⟨g, off, none⟩) L.length cc) rfl (by kernel_rfl) (fun _ _ _ h => h) (Or.inl ⟨by rfl, ?_⟩) (by assumption) ?_
   ·
    intro wx hSw
    try dsimp only at hSw
    have u3 := hc3 wx hSw
    have u1 := he1 wx hSw
    have u10 := hp0 wx hSw
    have u11 := hp1 wx hSw
    have u12 := hp2 wx hSw
    have u13 := hp3 wx hSw
    have u14 := hp4 wx hSw
    have u15 := hp5 wx hSw
    have u16 := hp6 wx hSw
    have u17 := hp7 wx hSw
    have u18 := hp8 wx hSw
    have u19 := hp9 wx hSw
    have u20 := hq0 wx hSw
    have u21 := hq1 wx hSw
    have u22 := hq2 wx hSw
    have u23 := hq3 wx hSw
    have u24 := hq4 wx hSw
    have u25 := hq5 wx hSw
    have u26 := hq6 wx hSw
    have u27 := hq7 wx hSw
    have u28 := hq8 wx hSw
    have u29 := hq9 wx hSw
    go_simp
    try with_reducible rfl
   try simp only [Act.put, La1, La2, La3]
   refine tk (i := 12) (oi := ⟨some 48, .move (.tmp 11), 3, "ref.go:120", #[⟨7, .guard⟩], some (7, true)⟩) (v := .int .i64 (k : Int)) rfl (by kernel_rfl) (fun _ _ _ h => h) (Or.inl ⟨by rfl, ?_⟩) (by assumption) ?_
   ·
    intro wx hSw
    go_simp
    try with_reducible rfl
   try simp only [Act.put, La1, La2, La3]
   refine tk (i := 13) (oi := ⟨some 49, .indexAddr 42 (.tmp 47) (.tmp 48), 0, "ref.go:120", #[⟨11, .data⟩, ⟨12, .data⟩, ⟨7, .guard⟩], some (7, true)⟩) (v := .pointer (some ⟨g, off + k * 2, none⟩)) rfl (by kernel_rfl) (fun _ _ _ h => h) (Or.inl ⟨by rfl, ?_⟩) (by assumption) ?_
   ·
    intro wx hSw
    go_simp
    try with_reducible rfl
   try simp only [Act.put, La1, La2, La3]
   refine tk (i := 14) (oi := ⟨some 50, .fieldAddr 64 (.tmp 49) 1, 0, "ref.go:120", #[⟨13, .data⟩, ⟨7, .guard⟩], some (7, true)⟩) (v := .pointer (some ⟨g, off + k * 2 + 1, none⟩)) rfl (by kernel_rfl) (fun _ _ _ h => h) (Or.inl ⟨by rfl, ?_⟩) (by assumption) ?_
   ·
    intro wx hSw
    go_simp
    try with_reducible rfl
   try simp only [Act.put, La1, La2, La3]
   refine tk (i := 15) (oi := ⟨some 51, .load 36 (.tmp 50), 36, "ref.go:120", #[⟨14, .data⟩, ⟨7, .guard⟩], some (7, true)⟩) (v := .slice (some ⟨gx, 0, none⟩) x.ps.length xc) rfl (by kernel_rfl) (fun _ _ _ h => h) (Or.inl ⟨by rfl, ?_⟩) (by assumption) ?_
   ·
    intro wx hSw
    try dsimp only at hSw
    have u3 := hc3 wx hSw
    have u1 := he1 wx hSw
    have u10 := hp0 wx hSw
    have u11 := hp1 wx hSw
    have u12 := hp2 wx hSw
    have u13 := hp3 wx hSw
    have u14 := hp4 wx hSw
    have u15 := hp5 wx hSw
    have u16 := hp6 wx hSw
    have u17 := hp7 wx hSw
    have u18 := hp8 wx hSw
    have u19 := hp9 wx hSw
    have u20 := hq0 wx hSw
    have u21 := hq1 wx hSw
    have u22 := hq2 wx hSw
    have u23 := hq3 wx hSw
    have u24 := hq4 wx hSw
    have u25 := hq5 wx hSw
    have u26 := hq6 wx hSw
    have u27 := hq7 wx hSw
    have u28 := hq8 wx hSw
    have u29 := hq9 wx hSw
    go_simp
    try with_reducible rfl
   try simp only [Act.put, La1, La2, La3]
   refine tk (i := 16) (oi := ⟨some 52, .indexAddr 36 (.tmp 51) (.const (.int .i64 0)), 0, "ref.go:120", #[⟨15, .data⟩, ⟨7, .guard⟩], some (7, true)⟩) (v := .pointer (some ⟨gx, 0, none⟩)) rfl (by kernel_rfl) (fun _ _ _ h => h) (Or.inl ⟨by rfl, ?_⟩) (by assumption) ?_
   ·
    intro wx hSw
    go_simp
    try with_reducible rfl
   try simp only [Act.put, La1, La2, La3]
   refine tk (i := 17) (oi := ⟨some 53, .load 32 (.tmp 52), 32, "ref.go:120", #[⟨16, .data⟩, ⟨7, .guard⟩], some (7, true)⟩) (v := .agg #[.int .i64 q.f, .int .i64 q.t, .int .i64 q.tl, .int .i64 q.pr, .int .i64 q.id, .int .i64 q.fr, .bool q.mo, .bool q.dn, .string q.op, .string q.da]) rfl (by kernel_rfl) (fun _ _ _ h => h) (Or.inl ⟨by rfl, ?_⟩) (by assumption) ?_
   ·
    intro wx hSw
    try dsimp only at hSw
    have u3 := hc3 wx hSw
    have u1 := he1 wx hSw
    have u10 := hp0 wx hSw
    have u11 := hp1 wx hSw
    have u12 := hp2 wx hSw
    have u13 := hp3 wx hSw
    have u14 := hp4 wx hSw
    have u15 := hp5 wx hSw
    have u16 := hp6 wx hSw
    have u17 := hp7 wx hSw
    have u18 := hp8 wx hSw
    have u19 := hp9 wx hSw
    have u20 := hq0 wx hSw
    have u21 := hq1 wx hSw
    have u22 := hq2 wx hSw
    have u23 := hq3 wx hSw
    have u24 := hq4 wx hSw
    have u25 := hq5 wx hSw
    have u26 := hq6 wx hSw
    have u27 := hq7 wx hSw
    have u28 := hq8 wx hSw
    have u29 := hq9 wx hSw
    go_simp
    try with_reducible rfl
   try simp only [Act.put, La1, La2, La3]
   refine tk (i := 18) (oi := ⟨some 54, .load 32 (.tmp 4), 32, "ref.go:120", #[⟨7, .guard⟩], some (7, true)⟩) (v := .agg #[.int .i64 p.f, .int .i64 p.t, .int .i64 p.tl, .int .i64 p.pr, .int .i64 p.id, .int .i64 p.fr, .bool p.mo, .bool p.dn, .string p.op, .string p.da]) rfl (by kernel_rfl) (fun _ _ _ h => h) (Or.inl ⟨by rfl, ?_⟩) (by assumption) ?_
   ·
    intro wx hSw
    try dsimp only at hSw
    have u3 := hc3 wx hSw
    have u1 := he1 wx hSw
    have u10 := hp0 wx hSw
    have u11 := hp1 wx hSw
    have u12 := hp2 wx hSw
    have u13 := hp3 wx hSw
    have u14 := hp4 wx hSw
    have u15 := hp5 wx hSw
    have u16 := hp6 wx hSw
    have u17 := hp7 wx hSw
    have u18 := hp8 wx hSw
    have u19 := hp9 wx hSw
    have u20 := hq0 wx hSw
    have u21 := hq1 wx hSw
    have u22 := hq2 wx hSw
    have u23 := hq3 wx hSw
    have u24 := hq4 wx hSw
    have u25 := hq5 wx hSw
    have u26 := hq6 wx hSw
    have u27 := hq7 wx hSw
    have u28 := hq8 wx hSw
    have u29 := hq9 wx hSw
    go_simp
    try with_reducible rfl
   try simp only [Act.put, La1, La2, La3]
   refine wpAnyH_ready (rs := [19]) (by kernel_rfl) (by simp) ?_
   refine AllReadyH.cons (o := ⟨some 55, .call { callee := .value (.func 26), args := #[.tmp 53, .tmp 54], argTypes := #[32, 32] }, 4, "ref.go:120", #[⟨17, .data⟩, ⟨18, .data⟩, ⟨7, .chain⟩, ⟨7, .guard⟩], some (7, true)⟩) rfl (fun K hK => ?_) AllReadyH.nil
   go_simp
   go_at_call 26
   refine (tog_any q p _).mono ?_
   rintro e wc ⟨rfl, hbc⟩
   rw [hdec]
   first
    | refine hK.out _ _ ?_ (fun hHeld => ?_)
    | (go_wp2_with fail; refine hK.out _ _ ?_ (fun hHeld => ?_))
   ·
    try dsimp only
    exact bt hHeld hbc
   clear hK K
   try simp only [Act.put, La1, La2, La3]
   refine tk (i := 20) (oi := ⟨some 56, .unOp .not 4 (.tmp 55), 4, "ref.go:120", #[⟨19, .data⟩, ⟨7, .guard⟩], some (7, true)⟩) (v := .bool true) rfl (by kernel_rfl) (fun _ _ _ h => h) (Or.inl ⟨by rfl, ?_⟩) (by assumption) ?_
   ·
    intro wx hSw
    go_simp
    try with_reducible rfl
   try simp only [Act.put, La1, La2, La3]
   refine tk (i := 21) (oi := ⟨some 57, .pick (.tmp 43) (.tmp 56) (.const (.bool false)), 4, "ref.go:120", #[⟨7, .data⟩, ⟨20, .data⟩], none⟩) (v := .bool true) rfl (by kernel_rfl) (fun _ _ _ h => h) (Or.inl ⟨by rfl, ?_⟩) (by assumption) ?_
   ·
    intro wx hSw
    go_simp
    try with_reducible rfl
   try simp only [Act.put, La1, La2, La3]
   refine wpAnyH_done (by kernel_rfl) ?_ _
   have hb' := bt hb hHeld
   clear hHeld
   go_wp2
   go_roundw
   case rel => exact ⟨k + 1, by omega, by first | rfl | simp, hb'⟩
   case measure => simp [intOf]; omega
  ·
   have hk1 : ¬ (k : Int) < (L.length : Int) := by omega
   have hkl : k = L.length := by omega
   have HKL : Hid (k = L.length) := hkl
   have hkeq : ((k : Int) == (L.length : Int)) = true := by simp; omega
   clear hkl
   have hKr := hK3.later hb
   have hZr := hZ3.later hb
   have hPr := hP3.later hb
   obtain ⟨c0, -, -, c3⟩ := hKr.fourD
   go_wp2_with fail
   go_quiet (fail)
   have qd : Below wr.heap.size wr (wr.drewN nq) := below_drewN (Below.refl _ _) nq
   replace c0 := later qd c0
   replace c3 := later qd c3
   replace hKr := hKr.later qd
   replace hZr := hZr.later qd
   replace hPr := hPr.later qd
   replace hb := bt hb qd
   clear qd
   generalize wr.drewN nq = wd at *
   have hge : ¬ (ro : Int) ≤ (L.length : Int) := by omega
   go_upto_if 66 with fail
   go_cut [11] from 60 to 179 (fun c11 W => c11 = .int .i64 (k : Int) ∧ ∃ (wf : World) (g9 : Nat) (a' : Option Addr) (n' c' : Nat), Below wd.heap.size wd wf ∧ At W K #[.int .i64 ro, .int .i64 pa, .int .i64 now, .slice a' n' c'] ∧ DO W wf.heap.size (.slice a' n' c') (([] ++ L.map DP.e) ++ [(now, .slice (some ⟨g9, 0, none⟩) 1 1)]) ∧ RW W wf.heap.size (.slice (some ⟨g9, 0, none⟩) 1 1) [p] ∧ Turn (fun k => k = K) wf W)
   case first =>
    as_aux_lemma =>
    go_upto_region 13 with fail
    go_quiet (fail)
    have qd : Below wd.heap.size wd (wd.drewN nq) := below_drewN (Below.refl _ _) nq
    replace hKr := hKr.later qd
    replace hPr := hPr.later qd
    clear c0 c3
    generalize wd.drewN nq = we at *
    go_wp2_with (first | (refine wpList_load_at rfl 32 _ rfl _ w.heap.size #[.int .i64 p.f, .int .i64 p.t, .int .i64 p.tl, .int .i64 p.pr, .int .i64 p.id, .int .i64 p.fr, .bool p.mo, .bool p.dn, .string p.op, .string p.da] _ rfl hPr Try.underlying32 (by kernel_rfl) ?_) | fail)
    refine (rfits_any [] p (.slice none 0 0) 0 we (RW.nil _ _) (Nat.zero_le _) hp (fun q hq => by cases hq)).mono ?_
    rw [HFT.out]
    rintro e wf ⟨rfl, lf⟩
    have hKf := hKr.later lf
    have hPf := hPr.later lf
    have hbf := bt qd lf
    have HDf : Hid (DR wf base (.slice pp L.length cc) (L.map DP.e)) := HD3.out.later (bt hb hbf)
    have HRf : Hid (∀ x ∈ L, RW wf base x.v x.ps) := fun x hx => (HR3.out x hx).later (bt hb hbf)
    have hsf : w.heap.size + 1 < wf.heap.size := (hZr.later hbf).1
    have hone := one_list HRf.out
    have hlm : (L.map DP.e).length = L.length := List.length_map _
    have hlm2 : ([] : List De).length + (L.map DP.e).length < 1000000 := by rw [hlm]; simp; omega
    have hbf' : Below wd.heap.size wd wf := hbf
    clear lf qd hKr hPr hZr hbf
    go_upto_region 17 with fail
    have hKw : At wf.drew K #[.int .i64 ro, .int .i64 pa, .int .i64 now, .slice pp L.length cc] := hKf.later (Below.refl _ _).drew
    have hDL : DR wf.drew base (.slice pp L.length cc) (L.map DP.e) := HDf.out.later (Below.refl _ _).drew
    have hPd : At wf.drew w.heap.size #[.int .i64 p.f, .int .i64 p.t, .int .i64 p.tl, .int .i64 p.pr, .int .i64 p.id, .int .i64 p.fr, .bool p.mo, .bool p.dn, .string p.op, .string p.da] := hPf.later (Below.refl _ _).drew
    have hBw : Below wf.heap.size wf wf.drew := (Below.refl _ _).drew
    clear hKf hPf
    refine wp_region_held_drew (S := (fun W => At W w.heap.size #[.int .i64 p.f, .int .i64 p.t, .int .i64 p.tl, .int .i64 p.pr, .int .i64 p.id, .int .i64 p.fr, .bool p.mo, .bool p.dn, .string p.op, .string p.da])) (by kernel_rfl) ?_ (fun hHeld => ?_)
    · first | exact hPd | assumption
    generalize wf.drew = wl at *
    refine tk (i := 0) (oi := ⟨some 82, .move (.tmp 0), 27, "ref.go:130", #[], none⟩) (v := .pointer (some ⟨K, 0, none⟩)) rfl (by kernel_rfl) (fun _ _ _ h => h) (Or.inl ⟨by rfl, ?_⟩) (by assumption) ?_
    ·
     intro wx hSw
     go_simp
     try with_reducible rfl
    try simp only [Act.put, La1, La2, La3]
    refine tk (i := 2) (oi := ⟨some 84, .move (.tmp 0), 27, "ref.go:130", #[], none⟩) (v := .pointer (some ⟨K, 0, none⟩)) rfl (by kernel_rfl) (fun _ _ _ h => h) (Or.inl ⟨by rfl, ?_⟩) (by assumption) ?_
    ·
     intro wx hSw
     go_simp
     try with_reducible rfl
    try simp only [Act.put, La1, La2, La3]
    refine tk (i := 3) (oi := ⟨some 85, .nilCheck (.tmp 84), 0, "ref.go:130", #[⟨2, .data⟩], none⟩) (v := .pointer (some ⟨K, 0, none⟩)) rfl (by kernel_rfl) (fun _ _ _ h => h) (Or.inl ⟨by rfl, ?_⟩) (by assumption) ?_
    ·
     intro wx hSw
     go_simp
     try with_reducible rfl
    try simp only [Act.put, La1, La2, La3]
    refine tk (i := 4) (oi := ⟨some 86, .fieldAddr 44 (.tmp 85) 3, 0, "ref.go:130", #[⟨3, .data⟩], none⟩) (v := .pointer (some ⟨K, 3, none⟩)) rfl (by kernel_rfl) (fun _ _ _ h => h) (Or.inl ⟨by rfl, ?_⟩) (by assumption) ?_
    ·
     intro wx hSw
     go_simp
     try with_reducible rfl
    try simp only [Act.put, La1, La2, La3]
    refine tk (i := 7) (oi := ⟨some 89, .move (.tmp 2), 3, "ref.go:130", #[], none⟩) (v := .int .i64 now) rfl (by kernel_rfl) (fun _ _ _ h => h) (Or.inl ⟨by rfl, ?_⟩) (by assumption) ?_
    ·
     intro wx hSw
     go_simp
     try with_reducible rfl
    try simp only [Act.put, La1, La2, La3]
    refine tk (i := 8) (oi := ⟨some 90, .load 32 (.tmp 4), 32, "ref.go:130", #[], none⟩) (v := .agg #[.int .i64 p.f, .int .i64 p.t, .int .i64 p.tl, .int .i64 p.pr, .int .i64 p.id, .int .i64 p.fr, .bool p.mo, .bool p.dn, .string p.op, .string p.da]) rfl (by kernel_rfl) (fun _ _ _ h => h) (Or.inl ⟨by rfl, ?_⟩) (by assumption) ?_
    ·
     intro wx hSw
     try dsimp only at hSw
     obtain ⟨⟨u10, u11, u12, u13, u14, u15, u16, u17, u18, u19⟩, -, -⟩ := hSw.ten
     go_simp
     try with_reducible rfl
    try simp only [Act.put, La1, La2, La3]
    refine wpAnyH_ready (rs := [1, 5, 9]) (by kernel_rfl) (by simp) ?_
    refine AllReadyH.cons (o := ⟨some 83, .buildSlice 42 0 #[], 42, "ref.go:130", #[], none⟩) rfl (fun KK hK => ?_) (AllReadyH.cons (o := ⟨some 87, .load 42 (.tmp 86), 42, "ref.go:130", #[⟨4, .data⟩], none⟩) rfl (fun KK hK => ?_) (AllReadyH.cons (o := ⟨some 91, .buildSlice 36 1 #[(0, .tmp 90)], 36, "ref.go:130", #[⟨8, .data⟩], none⟩) rfl (fun KK hK => ?_) AllReadyH.nil))
    ·
     refine step_b0D (by rfl) (by rfl) wf.heap.size hBw.size ?_
     intro g1 wl hg1 hg1b hE1 hB
     refine hK.out _ _ (hHeld.later hB) (fun hHeld => ?_)
     try have hne : g11 ≠ g1 := by omega
     try replace hKw := hKw.later hB
     try replace hDL := hDL.later hB
     try replace h6 := h6.later hB
     try replace h9 := h9.later hB
     try replace h11 := h11.later hB
     try replace hg9b := Nat.lt_of_lt_of_le hg9b hB.size
     try replace hg11b := Nat.lt_of_lt_of_le hg11b hB.size
     have hg1f : wf.heap.size ≤ g1 := Nat.le_trans hBw.size hg1
     replace hBw := bt hBw hB
     clear hK KK
     try simp only [Act.put, La1, La2, La3]
     refine wpAnyH_ready (rs := [5, 9]) (by kernel_rfl) (by simp) ?_
     refine AllReadyH.cons (o := ⟨some 87, .load 42 (.tmp 86), 42, "ref.go:130", #[⟨4, .data⟩], none⟩) rfl (fun KK hK => ?_) (AllReadyH.cons (o := ⟨some 91, .buildSlice 36 1 #[(0, .tmp 90)], 36, "ref.go:130", #[⟨8, .data⟩], none⟩) rfl (fun KK hK => ?_) AllReadyH.nil)
     ·
      have k3 := (hKw.2 3 _ rfl).1
      go_simp
      refine hK.out _ _ hHeld (fun hHeld => ?_)
      clear k3
      clear hK KK
      try simp only [Act.put, La1, La2, La3]
      refine wpAnyH_ready (rs := [6, 9]) (by kernel_rfl) (by simp) ?_
      refine AllReadyH.cons (o := ⟨some 88, .call { callee := .builtin .append, args := #[.tmp 83, .tmp 87], argTypes := #[42, 42] }, 42, "ref.go:130", #[⟨1, .data⟩, ⟨5, .data⟩], none⟩) rfl (fun KK hK => ?_) (AllReadyH.cons (o := ⟨some 91, .buildSlice 36 1 #[(0, .tmp 90)], 36, "ref.go:130", #[⟨8, .data⟩], none⟩) rfl (fun KK hK => ?_) AllReadyH.nil)
      ·
       refine step_appD (by rfl) _ _ (by rfl) (by rfl) (by rfl) hE1 hDL hone hBw.size hlm2 ?_
       intro a6 n6 c6 wl h6 ht6 hk6 hB
       refine hK.out _ _ (hHeld.turn ht6 (by intro e; have e2 : g1 = w.heap.size := (by injection e); omega)) (fun hHeld => ?_)
       replace hKw := hKw.turn ht6 (by intro e; have e2 : g1 = K := (by injection e); omega)
       try replace h9 := h9.turn ht6 (fun k hk e => rw_do_ne h9 hE1 k hk e)
       try replace h11 := h11.turn ht6 (by intro k hk e; have e1 : g11 = k := (by injection hk); have e2 : g1 = k := (by injection e); omega)
       try replace hg1b := Nat.lt_of_lt_of_le hg1b hB.size
       try replace hg9b := Nat.lt_of_lt_of_le hg9b hB.size
       try replace hg11b := Nat.lt_of_lt_of_le hg11b hB.size
       replace hBw := hBw.trans hB
       clear hK KK
       try simp only [Act.put, La1, La2, La3]
       refine wpAnyH_ready (rs := [9]) (by kernel_rfl) (by simp) ?_
       refine AllReadyH.cons (o := ⟨some 91, .buildSlice 36 1 #[(0, .tmp 90)], 36, "ref.go:130", #[⟨8, .data⟩], none⟩) rfl (fun KK hK => ?_) AllReadyH.nil
       ·
        refine step_bsP (by rfl) _ (by rfl) p (by rfl) wf.heap.size hBw.size ?_
        intro g9 wl hg9 hg9b h9 hB
        refine hK.out _ _ (hHeld.later hB) (fun hHeld => ?_)
        try replace hKw := hKw.later hB
        try replace hDL := hDL.later hB
        try replace hE1 := hE1.later hB
        try replace h6 := h6.later hB
        try replace h11 := h11.later hB
        try replace hg1b := Nat.lt_of_lt_of_le hg1b hB.size
        try replace hg11b := Nat.lt_of_lt_of_le hg11b hB.size
        replace hBw := bt hBw hB
        clear hK KK
        try simp only [Act.put, La1, La2, La3]
        refine tk (i := 10) (oi := ⟨some 92, .build 64 #[(0, .tmp 89), (1, .tmp 91)], 64, "ref.go:130", #[⟨7, .data⟩, ⟨9, .data⟩], none⟩) (v := .agg #[.int .i64 now, .slice (some ⟨g9, 0, none⟩) 1 1]) rfl (by kernel_rfl) (fun _ _ _ h => h) (Or.inl ⟨by rfl, ?_⟩) (by assumption) ?_
        ·
         intro wx hSw
         go_simp
         try with_reducible rfl
        try simp only [Act.put, La1, La2, La3]
        refine wpAnyH_ready (rs := [11]) (by kernel_rfl) (by simp) ?_
        refine AllReadyH.cons (o := ⟨some 93, .buildSlice 42 1 #[(0, .tmp 92)], 42, "ref.go:130", #[⟨10, .data⟩], none⟩) rfl (fun KK hK => ?_) AllReadyH.nil
        ·
         refine step_bsD (by rfl) _ (by rfl) (now, .slice (some ⟨g9, 0, none⟩) 1 1) (by rfl) wf.heap.size hBw.size ?_
         intro g11 wl hg11 hg11b h11 hB
         refine hK.out _ _ (hHeld.later hB) (fun hHeld => ?_)
         try have hne : g11 ≠ g1 := by omega
         try replace hKw := hKw.later hB
         try replace hDL := hDL.later hB
         try replace hE1 := hE1.later hB
         try replace h6 := h6.later hB
         try replace h9 := h9.later hB
         try replace hg1b := Nat.lt_of_lt_of_le hg1b hB.size
         try replace hg9b := Nat.lt_of_lt_of_le hg9b hB.size
         replace hBw := bt hBw hB
         clear hK KK
         try simp only [Act.put, La1, La2, La3]
         refine wpAnyH_ready (rs := [12]) (by kernel_rfl) (by simp) ?_
         refine AllReadyH.cons (o := ⟨some 94, .call { callee := .builtin .append, args := #[.tmp 88, .tmp 93], argTypes := #[42, 42] }, 42, "ref.go:130", #[⟨6, .data⟩, ⟨11, .data⟩, ⟨6, .chain⟩], none⟩) rfl (fun KK hK => ?_) AllReadyH.nil
         ·
          refine step_appD (by rfl) _ _ (by rfl) (by rfl) (by rfl) h6 h11.dr (by intro e he; rw [List.mem_singleton.1 he]; rfl) hBw.size (by rw [List.nil_append, hlm]; simp; omega) ?_
          intro a12 n12 c12 wl h12 ht12 hk12 hB
          have hge6 := h6.ge
          refine hK.out _ _ (hHeld.turn ht12 (fun e => by have := hge6 _ e; omega)) (fun hHeld => ?_)
          replace hKw := hKw.turn ht12 (fun e => by have := hge6 _ e; omega)
          replace h9 := h9.turn ht12 (fun k hk e => rw_do_ne h9 h6 k hk e)
          replace hBw := hBw.trans hB
          clear hK KK
          try simp only [Act.put, La1, La2, La3]
          refine tk (i := 13) (oi := ⟨some 95, .nilCheck (.tmp 82), 0, "ref.go:130", #[⟨0, .data⟩, ⟨0, .phase⟩, ⟨1, .phase⟩, ⟨2, .phase⟩, ⟨3, .phase⟩, ⟨4, .phase⟩, ⟨5, .phase⟩, ⟨6, .phase⟩, ⟨7, .phase⟩, ⟨8, .phase⟩, ⟨9, .phase⟩, ⟨10, .phase⟩, ⟨11, .phase⟩, ⟨12, .phase⟩], none⟩) (v := .pointer (some ⟨K, 0, none⟩)) rfl (by kernel_rfl) (fun _ _ _ h => h) (Or.inl ⟨by rfl, ?_⟩) (by assumption) ?_
          ·
           intro wx hSw
           go_simp
           try with_reducible rfl
          try simp only [Act.put, La1, La2, La3]
          refine tk (i := 14) (oi := ⟨some 96, .fieldAddr 44 (.tmp 95) 3, 0, "ref.go:130", #[⟨13, .data⟩, ⟨0, .phase⟩, ⟨1, .phase⟩, ⟨2, .phase⟩, ⟨3, .phase⟩, ⟨4, .phase⟩, ⟨5, .phase⟩, ⟨6, .phase⟩, ⟨7, .phase⟩, ⟨8, .phase⟩, ⟨9, .phase⟩, ⟨10, .phase⟩, ⟨11, .phase⟩, ⟨12, .phase⟩], none⟩) (v := .pointer (some ⟨K, 3, none⟩)) rfl (by kernel_rfl) (fun _ _ _ h => h) (Or.inl ⟨by rfl, ?_⟩) (by assumption) ?_
          ·
           intro wx hSw
           go_simp
           try with_reducible rfl
          try simp only [Act.put, La1, La2, La3]
          refine wpAnyH_ready (rs := [15]) (by kernel_rfl) (by simp) ?_
          refine AllReadyH.cons (o := ⟨none, .store 42 (.tmp 96) (.tmp 94), 0, "ref.go:130", #[⟨14, .data⟩, ⟨12, .data⟩, ⟨12, .chain⟩, ⟨0, .phase⟩, ⟨1, .phase⟩, ⟨2, .phase⟩, ⟨3, .phase⟩, ⟨4, .phase⟩, ⟨5, .phase⟩, ⟨6, .phase⟩, ⟨7, .phase⟩, ⟨8, .phase⟩, ⟨9, .phase⟩, ⟨10, .phase⟩, ⟨11, .phase⟩, ⟨12, .phase⟩], none⟩) rfl (fun KK hK => ?_) AllReadyH.nil
          ·
           have k3 := (hKw.2 3 _ rfl).1
           have f3 := (hKw.2 3 _ rfl).2
           have kt := turn_set wl K 3 (.slice a12 n12 c12)
           go_simp
           refine hK.out _ _ (hHeld.turn kt (by omega)) (fun hHeld => ?_)
           clear k3 f3
           clear hK KK
           try simp only [Act.put, La1, La2, La3]
           refine wpAnyH_done (by kernel_rfl) ?_ _
           go_wp2
           go_meet
           case rel => exact ⟨rfl, wf, g9, a12, n12, c12, hbf', hKw.set 3 _, DO.turn h12 kt (fun k hk e => by have := h12.ge k hk; omega), RW.turn h9 kt (fun k hk e => by have := h9.ge k hk; omega), (Turn.of_below (S := fun k => k = K) hBw).trans kt⟩
      ·
       refine step_bsP (by rfl) _ (by rfl) p (by rfl) wf.heap.size hBw.size ?_
       intro g9 wl hg9 hg9b h9 hB
       refine hK.out _ _ (hHeld.later hB) (fun hHeld => ?_)
       try replace hKw := hKw.later hB
       try replace hDL := hDL.later hB
       try replace hE1 := hE1.later hB
       try replace h6 := h6.later hB
       try replace h11 := h11.later hB
       try replace hg1b := Nat.lt_of_lt_of_le hg1b hB.size
       try replace hg11b := Nat.lt_of_lt_of_le hg11b hB.size
       replace hBw := bt hBw hB
       clear hK KK
       try simp only [Act.put, La1, La2, La3]
       refine tk (i := 10) (oi := ⟨some 92, .build 64 #[(0, .tmp 89), (1, .tmp 91)], 64, "ref.go:130", #[⟨7, .data⟩, ⟨9, .data⟩], none⟩) (v := .agg #[.int .i64 now, .slice (some ⟨g9, 0, none⟩) 1 1]) rfl (by kernel_rfl) (fun _ _ _ h => h) (Or.inl ⟨by rfl, ?_⟩) (by assumption) ?_
       ·
        intro wx hSw
        go_simp
        try with_reducible rfl
       try simp only [Act.put, La1, La2, La3]
       refine wpAnyH_ready (rs := [6, 11]) (by kernel_rfl) (by simp) ?_
       refine AllReadyH.cons (o := ⟨some 88, .call { callee := .builtin .append, args := #[.tmp 83, .tmp 87], argTypes := #[42, 42] }, 42, "ref.go:130", #[⟨1, .data⟩, ⟨5, .data⟩], none⟩) rfl (fun KK hK => ?_) (AllReadyH.cons (o := ⟨some 93, .buildSlice 42 1 #[(0, .tmp 92)], 42, "ref.go:130", #[⟨10, .data⟩], none⟩) rfl (fun KK hK => ?_) AllReadyH.nil)
       ·
        refine step_appD (by rfl) _ _ (by rfl) (by rfl) (by rfl) hE1 hDL hone hBw.size hlm2 ?_
        intro a6 n6 c6 wl h6 ht6 hk6 hB
        refine hK.out _ _ (hHeld.turn ht6 (by intro e; have e2 : g1 = w.heap.size := (by injection e); omega)) (fun hHeld => ?_)
        replace hKw := hKw.turn ht6 (by intro e; have e2 : g1 = K := (by injection e); omega)
        try replace h9 := h9.turn ht6 (fun k hk e => rw_do_ne h9 hE1 k hk e)
        try replace h11 := h11.turn ht6 (by intro k hk e; have e1 : g11 = k := (by injection hk); have e2 : g1 = k := (by injection e); omega)
        try replace hg1b := Nat.lt_of_lt_of_le hg1b hB.size
        try replace hg9b := Nat.lt_of_lt_of_le hg9b hB.size
        try replace hg11b := Nat.lt_of_lt_of_le hg11b hB.size
        replace hBw := hBw.trans hB
        clear hK KK
        try simp only [Act.put, La1, La2, La3]
        refine wpAnyH_ready (rs := [11]) (by kernel_rfl) (by simp) ?_
        refine AllReadyH.cons (o := ⟨some 93, .buildSlice 42 1 #[(0, .tmp 92)], 42, "ref.go:130", #[⟨10, .data⟩], none⟩) rfl (fun KK hK => ?_) AllReadyH.nil
        ·
         refine step_bsD (by rfl) _ (by rfl) (now, .slice (some ⟨g9, 0, none⟩) 1 1) (by rfl) wf.heap.size hBw.size ?_
         intro g11 wl hg11 hg11b h11 hB
         refine hK.out _ _ (hHeld.later hB) (fun hHeld => ?_)
         try have hne : g11 ≠ g1 := by omega
         try replace hKw := hKw.later hB
         try replace hDL := hDL.later hB
         try replace hE1 := hE1.later hB
         try replace h6 := h6.later hB
         try replace h9 := h9.later hB
         try replace hg1b := Nat.lt_of_lt_of_le hg1b hB.size
         try replace hg9b := Nat.lt_of_lt_of_le hg9b hB.size
         replace hBw := bt hBw hB
         clear hK KK
         try simp only [Act.put, La1, La2, La3]
         refine wpAnyH_ready (rs := [12]) (by kernel_rfl) (by simp) ?_
         refine AllReadyH.cons (o := ⟨some 94, .call { callee := .builtin .append, args := #[.tmp 88, .tmp 93], argTypes := #[42, 42] }, 42, "ref.go:130", #[⟨6, .data⟩, ⟨11, .data⟩, ⟨6, .chain⟩], none⟩) rfl (fun KK hK => ?_) AllReadyH.nil
         ·
          refine step_appD (by rfl) _ _ (by rfl) (by rfl) (by rfl) h6 h11.dr (by intro e he; rw [List.mem_singleton.1 he]; rfl) hBw.size (by rw [List.nil_append, hlm]; simp; omega) ?_
          intro a12 n12 c12 wl h12 ht12 hk12 hB
          have hge6 := h6.ge
          refine hK.out _ _ (hHeld.turn ht12 (fun e => by have := hge6 _ e; omega)) (fun hHeld => ?_)
          replace hKw := hKw.turn ht12 (fun e => by have := hge6 _ e; omega)
          replace h9 := h9.turn ht12 (fun k hk e => rw_do_ne h9 h6 k hk e)
          replace hBw := hBw.trans hB
          clear hK KK
          try simp only [Act.put, La1, La2, La3]
          refine tk (i := 13) (oi := ⟨some 95, .nilCheck (.tmp 82), 0, "ref.go:130", #[⟨0, .data⟩, ⟨0, .phase⟩, ⟨1, .phase⟩, ⟨2, .phase⟩, ⟨3, .phase⟩, ⟨4, .phase⟩, ⟨5, .phase⟩, ⟨6, .phase⟩, ⟨7, .phase⟩, ⟨8, .phase⟩, ⟨9, .phase⟩, ⟨10, .phase⟩, ⟨11, .phase⟩, ⟨12, .phase⟩], none⟩) (v := .pointer (some ⟨K, 0, none⟩)) rfl (by kernel_rfl) (fun _ _ _ h => h) (Or.inl ⟨by rfl, ?_⟩) (by assumption) ?_
          ·
           intro wx hSw
           go_simp
           try with_reducible rfl
          try simp only [Act.put, La1, La2, La3]
          refine tk (i := 14) (oi := ⟨some 96, .fieldAddr 44 (.tmp 95) 3, 0, "ref.go:130", #[⟨13, .data⟩, ⟨0, .phase⟩, ⟨1, .phase⟩, ⟨2, .phase⟩, ⟨3, .phase⟩, ⟨4, .phase⟩, ⟨5, .phase⟩, ⟨6, .phase⟩, ⟨7, .phase⟩, ⟨8, .phase⟩, ⟨9, .phase⟩, ⟨10, .phase⟩, ⟨11, .phase⟩, ⟨12, .phase⟩], none⟩) (v := .pointer (some ⟨K, 3, none⟩)) rfl (by kernel_rfl) (fun _ _ _ h => h) (Or.inl ⟨by rfl, ?_⟩) (by assumption) ?_
          ·
           intro wx hSw
           go_simp
           try with_reducible rfl
          try simp only [Act.put, La1, La2, La3]
          refine wpAnyH_ready (rs := [15]) (by kernel_rfl) (by simp) ?_
          refine AllReadyH.cons (o := ⟨none, .store 42 (.tmp 96) (.tmp 94), 0, "ref.go:130", #[⟨14, .data⟩, ⟨12, .data⟩, ⟨12, .chain⟩, ⟨0, .phase⟩, ⟨1, .phase⟩, ⟨2, .phase⟩, ⟨3, .phase⟩, ⟨4, .phase⟩, ⟨5, .phase⟩, ⟨6, .phase⟩, ⟨7, .phase⟩, ⟨8, .phase⟩, ⟨9, .phase⟩, ⟨10, .phase⟩, ⟨11, .phase⟩, ⟨12, .phase⟩], none⟩) rfl (fun KK hK => ?_) AllReadyH.nil
          ·
           have k3 := (hKw.2 3 _ rfl).1
           have f3 := (hKw.2 3 _ rfl).2
           have kt := turn_set wl K 3 (.slice a12 n12 c12)
           go_simp
           refine hK.out _ _ (hHeld.turn kt (by omega)) (fun hHeld => ?_)
           clear k3 f3
           clear hK KK
           try simp only [Act.put, La1, La2, La3]
           refine wpAnyH_done (by kernel_rfl) ?_ _
           go_wp2
           go_meet
           case rel => exact ⟨rfl, wf, g9, a12, n12, c12, hbf', hKw.set 3 _, DO.turn h12 kt (fun k hk e => by have := h12.ge k hk; omega), RW.turn h9 kt (fun k hk e => by have := h9.ge k hk; omega), (Turn.of_below (S := fun k => k = K) hBw).trans kt⟩
       ·
        refine step_bsD (by rfl) _ (by rfl) (now, .slice (some ⟨g9, 0, none⟩) 1 1) (by rfl) wf.heap.size hBw.size ?_
        intro g11 wl hg11 hg11b h11 hB
        refine hK.out _ _ (hHeld.later hB) (fun hHeld => ?_)
        try have hne : g11 ≠ g1 := by omega
        try replace hKw := hKw.later hB
        try replace hDL := hDL.later hB
        try replace hE1 := hE1.later hB
        try replace h6 := h6.later hB
        try replace h9 := h9.later hB
        try replace hg1b := Nat.lt_of_lt_of_le hg1b hB.size
        try replace hg9b := Nat.lt_of_lt_of_le hg9b hB.size
        replace hBw := bt hBw hB
        clear hK KK
        try simp only [Act.put, La1, La2, La3]
        refine wpAnyH_ready (rs := [6]) (by kernel_rfl) (by simp) ?_
        refine AllReadyH.cons (o := ⟨some 88, .call { callee := .builtin .append, args := #[.tmp 83, .tmp 87], argTypes := #[42, 42] }, 42, "ref.go:130", #[⟨1, .data⟩, ⟨5, .data⟩], none⟩) rfl (fun KK hK => ?_) AllReadyH.nil
        ·
         refine step_appD (by rfl) _ _ (by rfl) (by rfl) (by rfl) hE1 hDL hone hBw.size hlm2 ?_
         intro a6 n6 c6 wl h6 ht6 hk6 hB
         refine hK.out _ _ (hHeld.turn ht6 (by intro e; have e2 : g1 = w.heap.size := (by injection e); omega)) (fun hHeld => ?_)
         replace hKw := hKw.turn ht6 (by intro e; have e2 : g1 = K := (by injection e); omega)
         try replace h9 := h9.turn ht6 (fun k hk e => rw_do_ne h9 hE1 k hk e)
         try replace h11 := h11.turn ht6 (by intro k hk e; have e1 : g11 = k := (by injection hk); have e2 : g1 = k := (by injection e); omega)
         try replace hg1b := Nat.lt_of_lt_of_le hg1b hB.size
         try replace hg9b := Nat.lt_of_lt_of_le hg9b hB.size
         try replace hg11b := Nat.lt_of_lt_of_le hg11b hB.size
         replace hBw := hBw.trans hB
         clear hK KK
         try simp only [Act.put, La1, La2, La3]
         refine wpAnyH_ready (rs := [12]) (by kernel_rfl) (by simp) ?_
         refine AllReadyH.cons (o := ⟨some 94, .call { callee := .builtin .append, args := #[.tmp 88, .tmp 93], argTypes := #[42, 42] }, 42, "ref.go:130", #[⟨6, .data⟩, ⟨11, .data⟩, ⟨6, .chain⟩], none⟩) rfl (fun KK hK => ?_) AllReadyH.nil
         ·
          refine step_appD (by rfl) _ _ (by rfl) (by rfl) (by rfl) h6 h11.dr (by intro e he; rw [List.mem_singleton.1 he]; rfl) hBw.size (by rw [List.nil_append, hlm]; simp; omega) ?_
          intro a12 n12 c12 wl h12 ht12 hk12 hB
          have hge6 := h6.ge
          refine hK.out _ _ (hHeld.turn ht12 (fun e => by have := hge6 _ e; omega)) (fun hHeld => ?_)
          replace hKw := hKw.turn ht12 (fun e => by have := hge6 _ e; omega)
          replace h9 := h9.turn ht12 (fun k hk e => rw_do_ne h9 h6 k hk e)
          replace hBw := hBw.trans hB
          clear hK KK
          try simp only [Act.put, La1, La2, La3]
          refine tk (i := 13) (oi := ⟨some 95, .nilCheck (.tmp 82), 0, "ref.go:130", #[⟨0, .data⟩, ⟨0, .phase⟩, ⟨1, .phase⟩, ⟨2, .phase⟩, ⟨3, .phase⟩, ⟨4, .phase⟩, ⟨5, .phase⟩, ⟨6, .phase⟩, ⟨7, .phase⟩, ⟨8, .phase⟩, ⟨9, .phase⟩, ⟨10, .phase⟩, ⟨11, .phase⟩, ⟨12, .phase⟩], none⟩) (v := .pointer (some ⟨K, 0, none⟩)) rfl (by kernel_rfl) (fun _ _ _ h => h) (Or.inl ⟨by rfl, ?_⟩) (by assumption) ?_
          ·
           intro wx hSw
           go_simp
           try with_reducible rfl
          try simp only [Act.put, La1, La2, La3]
          refine tk (i := 14) (oi := ⟨some 96, .fieldAddr 44 (.tmp 95) 3, 0, "ref.go:130", #[⟨13, .data⟩, ⟨0, .phase⟩, ⟨1, .phase⟩, ⟨2, .phase⟩, ⟨3, .phase⟩, ⟨4, .phase⟩, ⟨5, .phase⟩, ⟨6, .phase⟩, ⟨7, .phase⟩, ⟨8, .phase⟩, ⟨9, .phase⟩, ⟨10, .phase⟩, ⟨11, .phase⟩, ⟨12, .phase⟩], none⟩) (v := .pointer (some ⟨K, 3, none⟩)) rfl (by kernel_rfl) (fun _ _ _ h => h) (Or.inl ⟨by rfl, ?_⟩) (by assumption) ?_
          ·
           intro wx hSw
           go_simp
           try with_reducible rfl
          try simp only [Act.put, La1, La2, La3]
          refine wpAnyH_ready (rs := [15]) (by kernel_rfl) (by simp) ?_
          refine AllReadyH.cons (o := ⟨none, .store 42 (.tmp 96) (.tmp 94), 0, "ref.go:130", #[⟨14, .data⟩, ⟨12, .data⟩, ⟨12, .chain⟩, ⟨0, .phase⟩, ⟨1, .phase⟩, ⟨2, .phase⟩, ⟨3, .phase⟩, ⟨4, .phase⟩, ⟨5, .phase⟩, ⟨6, .phase⟩, ⟨7, .phase⟩, ⟨8, .phase⟩, ⟨9, .phase⟩, ⟨10, .phase⟩, ⟨11, .phase⟩, ⟨12, .phase⟩], none⟩) rfl (fun KK hK => ?_) AllReadyH.nil
          ·
           have k3 := (hKw.2 3 _ rfl).1
           have f3 := (hKw.2 3 _ rfl).2
           have kt := turn_set wl K 3 (.slice a12 n12 c12)
           go_simp
           refine hK.out _ _ (hHeld.turn kt (by omega)) (fun hHeld => ?_)
           clear k3 f3
           clear hK KK
           try simp only [Act.put, La1, La2, La3]
           refine wpAnyH_done (by kernel_rfl) ?_ _
           go_wp2
           go_meet
           case rel => exact ⟨rfl, wf, g9, a12, n12, c12, hbf', hKw.set 3 _, DO.turn h12 kt (fun k hk e => by have := h12.ge k hk; omega), RW.turn h9 kt (fun k hk e => by have := h9.ge k hk; omega), (Turn.of_below (S := fun k => k = K) hBw).trans kt⟩
     ·
      refine step_bsP (by rfl) _ (by rfl) p (by rfl) wf.heap.size hBw.size ?_
      intro g9 wl hg9 hg9b h9 hB
      refine hK.out _ _ (hHeld.later hB) (fun hHeld => ?_)
      try replace hKw := hKw.later hB
      try replace hDL := hDL.later hB
      try replace hE1 := hE1.later hB
      try replace h6 := h6.later hB
      try replace h11 := h11.later hB
      try replace hg1b := Nat.lt_of_lt_of_le hg1b hB.size
      try replace hg11b := Nat.lt_of_lt_of_le hg11b hB.size
      replace hBw := bt hBw hB
      clear hK KK
      try simp only [Act.put, La1, La2, La3]
      refine tk (i := 10) (oi := ⟨some 92, .build 64 #[(0, .tmp 89), (1, .tmp 91)], 64, "ref.go:130", #[⟨7, .data⟩, ⟨9, .data⟩], none⟩) (v := .agg #[.int .i64 now, .slice (some ⟨g9, 0, none⟩) 1 1]) rfl (by kernel_rfl) (fun _ _ _ h => h) (Or.inl ⟨by rfl, ?_⟩) (by assumption) ?_
      ·
       intro wx hSw
       go_simp
       try with_reducible rfl
      try simp only [Act.put, La1, La2, La3]
      refine wpAnyH_ready (rs := [5, 11]) (by kernel_rfl) (by simp) ?_
      refine AllReadyH.cons (o := ⟨some 87, .load 42 (.tmp 86), 42, "ref.go:130", #[⟨4, .data⟩], none⟩) rfl (fun KK hK => ?_) (AllReadyH.cons (o := ⟨some 93, .buildSlice 42 1 #[(0, .tmp 92)], 42, "ref.go:130", #[⟨10, .data⟩], none⟩) rfl (fun KK hK => ?_) AllReadyH.nil)
      ·
       have k3 := (hKw.2 3 _ rfl).1
       go_simp
       refine hK.out _ _ hHeld (fun hHeld => ?_)
       clear k3
       clear hK KK
       try simp only [Act.put, La1, La2, La3]
       refine wpAnyH_ready (rs := [6, 11]) (by kernel_rfl) (by simp) ?_
       refine AllReadyH.cons (o := ⟨some 88, .call { callee := .builtin .append, args := #[.tmp 83, .tmp 87], argTypes := #[42, 42] }, 42, "ref.go:130", #[⟨1, .data⟩, ⟨5, .data⟩], none⟩) rfl (fun KK hK => ?_) (AllReadyH.cons (o := ⟨some 93, .buildSlice 42 1 #[(0, .tmp 92)], 42, "ref.go:130", #[⟨10, .data⟩], none⟩) rfl (fun KK hK => ?_) AllReadyH.nil)
       ·
        refine step_appD (by rfl) _ _ (by rfl) (by rfl) (by rfl) hE1 hDL hone hBw.size hlm2 ?_
        intro a6 n6 c6 wl h6 ht6 hk6 hB
        refine hK.out _ _ (hHeld.turn ht6 (by intro e; have e2 : g1 = w.heap.size := (by injection e); omega)) (fun hHeld => ?_)
        replace hKw := hKw.turn ht6 (by intro e; have e2 : g1 = K := (by injection e); omega)
        try replace h9 := h9.turn ht6 (fun k hk e => rw_do_ne h9 hE1 k hk e)
        try replace h11 := h11.turn ht6 (by intro k hk e; have e1 : g11 = k := (by injection hk); have e2 : g1 = k := (by injection e); omega)
        try replace hg1b := Nat.lt_of_lt_of_le hg1b hB.size
        try replace hg9b := Nat.lt_of_lt_of_le hg9b hB.size
        try replace hg11b := Nat.lt_of_lt_of_le hg11b hB.size
        replace hBw := hBw.trans hB
        clear hK KK
        try simp only [Act.put, La1, La2, La3]
        refine wpAnyH_ready (rs := [11]) (by kernel_rfl) (by simp) ?_
        refine AllReadyH.cons (o := ⟨some 93, .buildSlice 42 1 #[(0, .tmp 92)], 42, "ref.go:130", #[⟨10, .data⟩], none⟩) rfl (fun KK hK => ?_) AllReadyH.nil
        ·
         refine step_bsD (by rfl) _ (by rfl) (now, .slice (some ⟨g9, 0, none⟩) 1 1) (by rfl) wf.heap.size hBw.size ?_
         intro g11 wl hg11 hg11b h11 hB
         refine hK.out _ _ (hHeld.later hB) (fun hHeld => ?_)
         try have hne : g11 ≠ g1 := by omega
         try replace hKw := hKw.later hB
         try replace hDL := hDL.later hB
         try replace hE1 := hE1.later hB
         try replace h6 := h6.later hB
         try replace h9 := h9.later hB
         try replace hg1b := Nat.lt_of_lt_of_le hg1b hB.size
         try replace hg9b := Nat.lt_of_lt_of_le hg9b hB.size
         replace hBw := bt hBw hB
         clear hK KK
         try simp only [Act.put, La1, La2, La3]
         refine wpAnyH_ready (rs := [12]) (by kernel_rfl) (by simp) ?_
         refine AllReadyH.cons (o := ⟨some 94, .call { callee := .builtin .append, args := #[.tmp 88, .tmp 93], argTypes := #[42, 42] }, 42, "ref.go:130", #[⟨6, .data⟩, ⟨11, .data⟩, ⟨6, .chain⟩], none⟩) rfl (fun KK hK => ?_) AllReadyH.nil
         ·
          refine step_appD (by rfl) _ _ (by rfl) (by rfl) (by rfl) h6 h11.dr (by intro e he; rw [List.mem_singleton.1 he]; rfl) hBw.size (by rw [List.nil_append, hlm]; simp; omega) ?_
          intro a12 n12 c12 wl h12 ht12 hk12 hB
          have hge6 := h6.ge
          refine hK.out _ _ (hHeld.turn ht12 (fun e => by have := hge6 _ e; omega)) (fun hHeld => ?_)
          replace hKw := hKw.turn ht12 (fun e => by have := hge6 _ e; omega)
          replace h9 := h9.turn ht12 (fun k hk e => rw_do_ne h9 h6 k hk e)
          replace hBw := hBw.trans hB
          clear hK KK
          try simp only [Act.put, La1, La2, La3]
          refine tk (i := 13) (oi := ⟨some 95, .nilCheck (.tmp 82), 0, "ref.go:130", #[⟨0, .data⟩, ⟨0, .phase⟩, ⟨1, .phase⟩, ⟨2, .phase⟩, ⟨3, .phase⟩, ⟨4, .phase⟩, ⟨5, .phase⟩, ⟨6, .phase⟩, ⟨7, .phase⟩, ⟨8, .phase⟩, ⟨9, .phase⟩, ⟨10, .phase⟩, ⟨11, .phase⟩, ⟨12, .phase⟩], none⟩) (v := .pointer (some ⟨K, 0, none⟩)) rfl (by kernel_rfl) (fun _ _ _ h => h) (Or.inl ⟨by rfl, ?_⟩) (by assumption) ?_
          ·
           intro wx hSw
           go_simp
           try with_reducible rfl
          try simp only [Act.put, La1, La2, La3]
          refine tk (i := 14) (oi := ⟨some 96, .fieldAddr 44 (.tmp 95) 3, 0, "ref.go:130", #[⟨13, .data⟩, ⟨0, .phase⟩, ⟨1, .phase⟩, ⟨2, .phase⟩, ⟨3, .phase⟩, ⟨4, .phase⟩, ⟨5, .phase⟩, ⟨6, .phase⟩, ⟨7, .phase⟩, ⟨8, .phase⟩, ⟨9, .phase⟩, ⟨10, .phase⟩, ⟨11, .phase⟩, ⟨12, .phase⟩], none⟩) (v := .pointer (some ⟨K, 3, none⟩)) rfl (by kernel_rfl) (fun _ _ _ h => h) (Or.inl ⟨by rfl, ?_⟩) (by assumption) ?_
          ·
           intro wx hSw
           go_simp
           try with_reducible rfl
          try simp only [Act.put, La1, La2, La3]
          refine wpAnyH_ready (rs := [15]) (by kernel_rfl) (by simp) ?_
          refine AllReadyH.cons (o := ⟨none, .store 42 (.tmp 96) (.tmp 94), 0, "ref.go:130", #[⟨14, .data⟩, ⟨12, .data⟩, ⟨12, .chain⟩, ⟨0, .phase⟩, ⟨1, .phase⟩, ⟨2, .phase⟩, ⟨3, .phase⟩, ⟨4, .phase⟩, ⟨5, .phase⟩, ⟨6, .phase⟩, ⟨7, .phase⟩, ⟨8, .phase⟩, ⟨9, .phase⟩, ⟨10, .phase⟩, ⟨11, .phase⟩, ⟨12, .phase⟩], none⟩) rfl (fun KK hK => ?_) AllReadyH.nil
          ·
           have k3 := (hKw.2 3 _ rfl).1
           have f3 := (hKw.2 3 _ rfl).2
           have kt := turn_set wl K 3 (.slice a12 n12 c12)
           go_simp
           refine hK.out _ _ (hHeld.turn kt (by omega)) (fun hHeld => ?_)
           clear k3 f3
           clear hK KK
           try simp only [Act.put, La1, La2, La3]
           refine wpAnyH_done (by kernel_rfl) ?_ _
           go_wp2
           go_meet
           case rel => exact ⟨rfl, wf, g9, a12, n12, c12, hbf', hKw.set 3 _, DO.turn h12 kt (fun k hk e => by have := h12.ge k hk; omega), RW.turn h9 kt (fun k hk e => by have := h9.ge k hk; omega), (Turn.of_below (S := fun k => k = K) hBw).trans kt⟩
       ·
        refine step_bsD (by rfl) _ (by rfl) (now, .slice (some ⟨g9, 0, none⟩) 1 1) (by rfl) wf.heap.size hBw.size ?_
        intro g11 wl hg11 hg11b h11 hB
        refine hK.out _ _ (hHeld.later hB) (fun hHeld => ?_)
        try have hne : g11 ≠ g1 := by omega
        try replace hKw := hKw.later hB
        try replace hDL := hDL.later hB
        try replace hE1 := hE1.later hB
        try replace h6 := h6.later hB
        try replace h9 := h9.later hB
        try replace hg1b := Nat.lt_of_lt_of_le hg1b hB.size
        try replace hg9b := Nat.lt_of_lt_of_le hg9b hB.size
        replace hBw := bt hBw hB
        clear hK KK
        try simp only [Act.put, La1, La2, La3]
        refine wpAnyH_ready (rs := [6]) (by kernel_rfl) (by simp) ?_
        refine AllReadyH.cons (o := ⟨some 88, .call { callee := .builtin .append, args := #[.tmp 83, .tmp 87], argTypes := #[42, 42] }, 42, "ref.go:130", #[⟨1, .data⟩, ⟨5, .data⟩], none⟩) rfl (fun KK hK => ?_) AllReadyH.nil
        ·
         refine step_appD (by rfl) _ _ (by rfl) (by rfl) (by rfl) hE1 hDL hone hBw.size hlm2 ?_
         intro a6 n6 c6 wl h6 ht6 hk6 hB
         refine hK.out _ _ (hHeld.turn ht6 (by intro e; have e2 : g1 = w.heap.size := (by injection e); omega)) (fun hHeld => ?_)
         replace hKw := hKw.turn ht6 (by intro e; have e2 : g1 = K := (by injection e); omega)
         try replace h9 := h9.turn ht6 (fun k hk e => rw_do_ne h9 hE1 k hk e)
         try replace h11 := h11.turn ht6 (by intro k hk e; have e1 : g11 = k := (by injection hk); have e2 : g1 = k := (by injection e); omega)
         try replace hg1b := Nat.lt_of_lt_of_le hg1b hB.size
         try replace hg9b := Nat.lt_of_lt_of_le hg9b hB.size
         try replace hg11b := Nat.lt_of_lt_of_le hg11b hB.size
         replace hBw := hBw.trans hB
         clear hK KK
         try simp only [Act.put, La1, La2, La3]
         refine wpAnyH_ready (rs := [12]) (by kernel_rfl) (by simp) ?_
         refine AllReadyH.cons (o := ⟨some 94, .call { callee := .builtin .append, args := #[.tmp 88, .tmp 93], argTypes := #[42, 42] }, 42, "ref.go:130", #[⟨6, .data⟩, ⟨11, .data⟩, ⟨6, .chain⟩], none⟩) rfl (fun KK hK => ?_) AllReadyH.nil
         ·
          refine step_appD (by rfl) _ _ (by rfl) (by rfl) (by rfl) h6 h11.dr (by intro e he; rw [List.mem_singleton.1 he]; rfl) hBw.size (by rw [List.nil_append, hlm]; simp; omega) ?_
          intro a12 n12 c12 wl h12 ht12 hk12 hB
          have hge6 := h6.ge
          refine hK.out _ _ (hHeld.turn ht12 (fun e => by have := hge6 _ e; omega)) (fun hHeld => ?_)
          replace hKw := hKw.turn ht12 (fun e => by have := hge6 _ e; omega)
          replace h9 := h9.turn ht12 (fun k hk e => rw_do_ne h9 h6 k hk e)
          replace hBw := hBw.trans hB
          clear hK KK
          try simp only [Act.put, La1, La2, La3]
          refine tk (i := 13) (oi := ⟨some 95, .nilCheck (.tmp 82), 0, "ref.go:130", #[⟨0, .data⟩, ⟨0, .phase⟩, ⟨1, .phase⟩, ⟨2, .phase⟩, ⟨3, .phase⟩, ⟨4, .phase⟩, ⟨5, .phase⟩, ⟨6, .phase⟩, ⟨7, .phase⟩, ⟨8, .phase⟩, ⟨9, .phase⟩, ⟨10, .phase⟩, ⟨11, .phase⟩, ⟨12, .phase⟩], none⟩) (v := .pointer (some ⟨K, 0, none⟩)) rfl (by kernel_rfl) (fun _ _ _ h => h) (Or.inl ⟨by rfl, ?_⟩) (by assumption) ?_
          ·
           intro wx hSw
           go_simp
           try with_reducible rfl
          try simp only [Act.put, La1, La2, La3]
          refine tk (i := 14) (oi := ⟨some 96, .fieldAddr 44 (.tmp 95) 3, 0, "ref.go:130", #[⟨13, .data⟩, ⟨0, .phase⟩, ⟨1, .phase⟩, ⟨2, .phase⟩, ⟨3, .phase⟩, ⟨4, .phase⟩, ⟨5, .phase⟩, ⟨6, .phase⟩, ⟨7, .phase⟩, ⟨8, .phase⟩, ⟨9, .phase⟩, ⟨10, .phase⟩, ⟨11, .phase⟩, ⟨12, .phase⟩], none⟩) (v := .pointer (some ⟨K, 3, none⟩)) rfl (by kernel_rfl) (fun _ _ _ h => h) (Or.inl ⟨by rfl, ?_⟩) (by assumption) ?_
          ·
           intro wx hSw
           go_simp
           try with_reducible rfl
          try simp only [Act.put, La1, La2, La3]
          refine wpAnyH_ready (rs := [15]) (by kernel_rfl) (by simp) ?_
          refine AllReadyH.cons (o := ⟨none, .store 42 (.tmp 96) (.tmp 94), 0, "ref.go:130", #[⟨14, .data⟩, ⟨12, .data⟩, ⟨12, .chain⟩, ⟨0, .phase⟩, ⟨1, .phase⟩, ⟨2, .phase⟩, ⟨3, .phase⟩, ⟨4, .phase⟩, ⟨5, .phase⟩, ⟨6, .phase⟩, ⟨7, .phase⟩, ⟨8, .phase⟩, ⟨9, .phase⟩, ⟨10, .phase⟩, ⟨11, .phase⟩, ⟨12, .phase⟩], none⟩) rfl (fun KK hK => ?_) AllReadyH.nil
          ·
           have k3 := (hKw.2 3 _ rfl).1
           have f3 := (hKw.2 3 _ rfl).2
           have kt := turn_set wl K 3 (.slice a12 n12 c12)
           go_simp
           refine hK.out _ _ (hHeld.turn kt (by omega)) (fun hHeld => ?_)
           clear k3 f3
           clear hK KK
           try simp only [Act.put, La1, La2, La3]
           refine wpAnyH_done (by kernel_rfl) ?_ _
           go_wp2
           go_meet
           case rel => exact ⟨rfl, wf, g9, a12, n12, c12, hbf', hKw.set 3 _, DO.turn h12 kt (fun k hk e => by have := h12.ge k hk; omega), RW.turn h9 kt (fun k hk e => by have := h9.ge k hk; omega), (Turn.of_below (S := fun k => k = K) hBw).trans kt⟩
      ·
       refine step_bsD (by rfl) _ (by rfl) (now, .slice (some ⟨g9, 0, none⟩) 1 1) (by rfl) wf.heap.size hBw.size ?_
       intro g11 wl hg11 hg11b h11 hB
       refine hK.out _ _ (hHeld.later hB) (fun hHeld => ?_)
       try have hne : g11 ≠ g1 := by omega
       try replace hKw := hKw.later hB
       try replace hDL := hDL.later hB
       try replace hE1 := hE1.later hB
       try replace h6 := h6.later hB
       try replace h9 := h9.later hB
       try replace hg1b := Nat.lt_of_lt_of_le hg1b hB.size
       try replace hg9b := Nat.lt_of_lt_of_le hg9b hB.size
       replace hBw := bt hBw hB
       clear hK KK
       try simp only [Act.put, La1, La2, La3]
       refine wpAnyH_ready (rs := [5]) (by kernel_rfl) (by simp) ?_
       refine AllReadyH.cons (o := ⟨some 87, .load 42 (.tmp 86), 42, "ref.go:130", #[⟨4, .data⟩], none⟩) rfl (fun KK hK => ?_) AllReadyH.nil
       ·
        have k3 := (hKw.2 3 _ rfl).1
        go_simp
        refine hK.out _ _ hHeld (fun hHeld => ?_)
        clear k3
        clear hK KK
        try simp only [Act.put, La1, La2, La3]
        refine wpAnyH_ready (rs := [6]) (by kernel_rfl) (by simp) ?_
        refine AllReadyH.cons (o := ⟨some 88, .call { callee := .builtin .append, args := #[.tmp 83, .tmp 87], argTypes := #[42, 42] }, 42, "ref.go:130", #[⟨1, .data⟩, ⟨5, .data⟩], none⟩) rfl (fun KK hK => ?_) AllReadyH.nil
        ·
         refine step_appD (by rfl) _ _ (by rfl) (by rfl) (by rfl) hE1 hDL hone hBw.size hlm2 ?_
         intro a6 n6 c6 wl h6 ht6 hk6 hB
         refine hK.out _ _ (hHeld.turn ht6 (by intro e; have e2 : g1 = w.heap.size := (by injection e); omega)) (fun hHeld => ?_)
         replace hKw := hKw.turn ht6 (by intro e; have e2 : g1 = K := (by injection e); omega)
         try replace h9 := h9.turn ht6 (fun k hk e => rw_do_ne h9 hE1 k hk e)
         try replace h11 := h11.turn ht6 (by intro k hk e; have e1 : g11 = k := (by injection hk); have e2 : g1 = k := (by injection e); omega)
         try replace hg1b := Nat.lt_of_lt_of_le hg1b hB.size
         try replace hg9b := Nat.lt_of_lt_of_le hg9b hB.size
         try replace hg11b := Nat.lt_of_lt_of_le hg11b hB.size
         replace hBw := hBw.trans hB
         clear hK KK
         try simp only [Act.put, La1, La2, La3]
         refine wpAnyH_ready (rs := [12]) (by kernel_rfl) (by simp) ?_
         refine AllReadyH.cons (o := ⟨some 94, .call { callee := .builtin .append, args := #[.tmp 88, .tmp 93], argTypes := #[42, 42] }, 42, "ref.go:130", #[⟨6, .data⟩, ⟨11, .data⟩, ⟨6, .chain⟩], none⟩) rfl (fun KK hK => ?_) AllReadyH.nil
         ·
          refine step_appD (by rfl) _ _ (by rfl) (by rfl) (by rfl) h6 h11.dr (by intro e he; rw [List.mem_singleton.1 he]; rfl) hBw.size (by rw [List.nil_append, hlm]; simp; omega) ?_
          intro a12 n12 c12 wl h12 ht12 hk12 hB
          have hge6 := h6.ge
          refine hK.out _ _ (hHeld.turn ht12 (fun e => by have := hge6 _ e; omega)) (fun hHeld => ?_)
          replace hKw := hKw.turn ht12 (fun e => by have := hge6 _ e; omega)
          replace h9 := h9.turn ht12 (fun k hk e => rw_do_ne h9 h6 k hk e)
          replace hBw := hBw.trans hB
          clear hK KK
          try simp only [Act.put, La1, La2, La3]
          refine tk (i := 13) (oi := ⟨some 95, .nilCheck (.tmp 82), 0, "ref.go:130", #[⟨0, .data⟩, ⟨0, .phase⟩, ⟨1, .phase⟩, ⟨2, .phase⟩, ⟨3, .phase⟩, ⟨4, .phase⟩, ⟨5, .phase⟩, ⟨6, .phase⟩, ⟨7, .phase⟩, ⟨8, .phase⟩, ⟨9, .phase⟩, ⟨10, .phase⟩, ⟨11, .phase⟩, ⟨12, .phase⟩], none⟩) (v := .pointer (some ⟨K, 0, none⟩)) rfl (by kernel_rfl) (fun _ _ _ h => h) (Or.inl ⟨by rfl, ?_⟩) (by assumption) ?_
          ·
           intro wx hSw
           go_simp
           try with_reducible rfl
          try simp only [Act.put, La1, La2, La3]
          refine tk (i := 14) (oi := ⟨some 96, .fieldAddr 44 (.tmp 95) 3, 0, "ref.go:130", #[⟨13, .data⟩, ⟨0, .phase⟩, ⟨1, .phase⟩, ⟨2, .phase⟩, ⟨3, .phase⟩, ⟨4, .phase⟩, ⟨5, .phase⟩, ⟨6, .phase⟩, ⟨7, .phase⟩, ⟨8, .phase⟩, ⟨9, .phase⟩, ⟨10, .phase⟩, ⟨11, .phase⟩, ⟨12, .phase⟩], none⟩) (v := .pointer (some ⟨K, 3, none⟩)) rfl (by kernel_rfl) (fun _ _ _ h => h) (Or.inl ⟨by rfl, ?_⟩) (by assumption) ?_
          ·
           intro wx hSw
           go_simp
           try with_reducible rfl
          try simp only [Act.put, La1, La2, La3]
          refine wpAnyH_ready (rs := [15]) (by kernel_rfl) (by simp) ?_
          refine AllReadyH.cons (o := ⟨none, .store 42 (.tmp 96) (.tmp 94), 0, "ref.go:130", #[⟨14, .data⟩, ⟨12, .data⟩, ⟨12, .chain⟩, ⟨0, .phase⟩, ⟨1, .phase⟩, ⟨2, .phase⟩, ⟨3, .phase⟩, ⟨4, .phase⟩, ⟨5, .phase⟩, ⟨6, .phase⟩, ⟨7, .phase⟩, ⟨8, .phase⟩, ⟨9, .phase⟩, ⟨10, .phase⟩, ⟨11, .phase⟩, ⟨12, .phase⟩], none⟩) rfl (fun KK hK => ?_) AllReadyH.nil
          ·
           have k3 := (hKw.2 3 _ rfl).1
           have f3 := (hKw.2 3 _ rfl).2
           have kt := turn_set wl K 3 (.slice a12 n12 c12)
           go_simp
           refine hK.out _ _ (hHeld.turn kt (by omega)) (fun hHeld => ?_)
           clear k3 f3
           clear hK KK
           try simp only [Act.put, La1, La2, La3]
           refine wpAnyH_done (by kernel_rfl) ?_ _
           go_wp2
           go_meet
           case rel => exact ⟨rfl, wf, g9, a12, n12, c12, hbf', hKw.set 3 _, DO.turn h12 kt (fun k hk e => by have := h12.ge k hk; omega), RW.turn h9 kt (fun k hk e => by have := h9.ge k hk; omega), (Turn.of_below (S := fun k => k = K) hBw).trans kt⟩
    ·
     have k3 := (hKw.2 3 _ rfl).1
     go_simp
     refine hK.out _ _ hHeld (fun hHeld => ?_)
     clear k3
     clear hK KK
     try simp only [Act.put, La1, La2, La3]
     refine wpAnyH_ready (rs := [1, 9]) (by kernel_rfl) (by simp) ?_
     refine AllReadyH.cons (o := ⟨some 83, .buildSlice 42 0 #[], 42, "ref.go:130", #[], none⟩) rfl (fun KK hK => ?_) (AllReadyH.cons (o := ⟨some 91, .buildSlice 36 1 #[(0, .tmp 90)], 36, "ref.go:130", #[⟨8, .data⟩], none⟩) rfl (fun KK hK => ?_) AllReadyH.nil)
     ·
      refine step_b0D (by rfl) (by rfl) wf.heap.size hBw.size ?_
      intro g1 wl hg1 hg1b hE1 hB
      refine hK.out _ _ (hHeld.later hB) (fun hHeld => ?_)
      try have hne : g11 ≠ g1 := by omega
      try replace hKw := hKw.later hB
      try replace hDL := hDL.later hB
      try replace h6 := h6.later hB
      try replace h9 := h9.later hB
      try replace h11 := h11.later hB
      try replace hg9b := Nat.lt_of_lt_of_le hg9b hB.size
      try replace hg11b := Nat.lt_of_lt_of_le hg11b hB.size
      have hg1f : wf.heap.size ≤ g1 := Nat.le_trans hBw.size hg1
      replace hBw := bt hBw hB
      clear hK KK
      try simp only [Act.put, La1, La2, La3]
      refine wpAnyH_ready (rs := [6, 9]) (by kernel_rfl) (by simp) ?_
      refine AllReadyH.cons (o := ⟨some 88, .call { callee := .builtin .append, args := #[.tmp 83, .tmp 87], argTypes := #[42, 42] }, 42, "ref.go:130", #[⟨1, .data⟩, ⟨5, .data⟩], none⟩) rfl (fun KK hK => ?_) (AllReadyH.cons (o := ⟨some 91, .buildSlice 36 1 #[(0, .tmp 90)], 36, "ref.go:130", #[⟨8, .data⟩], none⟩) rfl (fun KK hK => ?_) AllReadyH.nil)
      ·
       refine step_appD (by rfl) _ _ (by rfl) (by rfl) (by rfl) hE1 hDL hone hBw.size hlm2 ?_
       intro a6 n6 c6 wl h6 ht6 hk6 hB
       refine hK.out _ _ (hHeld.turn ht6 (by intro e; have e2 : g1 = w.heap.size := (by injection e); omega)) (fun hHeld => ?_)
       replace hKw := hKw.turn ht6 (by intro e; have e2 : g1 = K := (by injection e); omega)
       try replace h9 := h9.turn ht6 (fun k hk e => rw_do_ne h9 hE1 k hk e)
       try replace h11 := h11.turn ht6 (by intro k hk e; have e1 : g11 = k := (by injection hk); have e2 : g1 = k := (by injection e); omega)
       try replace hg1b := Nat.lt_of_lt_of_le hg1b hB.size
       try replace hg9b := Nat.lt_of_lt_of_le hg9b hB.size
       try replace hg11b := Nat.lt_of_lt_of_le hg11b hB.size
       replace hBw := hBw.trans hB
       clear hK KK
       try simp only [Act.put, La1, La2, La3]
       refine wpAnyH_ready (rs := [9]) (by kernel_rfl) (by simp) ?_
       refine AllReadyH.cons (o := ⟨some 91, .buildSlice 36 1 #[(0, .tmp 90)], 36, "ref.go:130", #[⟨8, .data⟩], none⟩) rfl (fun KK hK => ?_) AllReadyH.nil
       ·
        refine step_bsP (by rfl) _ (by rfl) p (by rfl) wf.heap.size hBw.size ?_
        intro g9 wl hg9 hg9b h9 hB
        refine hK.out _ _ (hHeld.later hB) (fun hHeld => ?_)
        try replace hKw := hKw.later hB
        try replace hDL := hDL.later hB
        try replace hE1 := hE1.later hB
        try replace h6 := h6.later hB
        try replace h11 := h11.later hB
        try replace hg1b := Nat.lt_of_lt_of_le hg1b hB.size
        try replace hg11b := Nat.lt_of_lt_of_le hg11b hB.size
        replace hBw := bt hBw hB
        clear hK KK
        try simp only [Act.put, La1, La2, La3]
        refine tk (i := 10) (oi := ⟨some 92, .build 64 #[(0, .tmp 89), (1, .tmp 91)], 64, "ref.go:130", #[⟨7, .data⟩, ⟨9, .data⟩], none⟩) (v := .agg #[.int .i64 now, .slice (some ⟨g9, 0, none⟩) 1 1]) rfl (by kernel_rfl) (fun _ _ _ h => h) (Or.inl ⟨by rfl, ?_⟩) (by assumption) ?_
        ·
         intro wx hSw
         go_simp
         try with_reducible rfl
        try simp only [Act.put, La1, La2, La3]
        refine wpAnyH_ready (rs := [11]) (by kernel_rfl) (by simp) ?_
        refine AllReadyH.cons (o := ⟨some 93, .buildSlice 42 1 #[(0, .tmp 92)], 42, "ref.go:130", #[⟨10, .data⟩], none⟩) rfl (fun KK hK => ?_) AllReadyH.nil
        ·
         refine step_bsD (by rfl) _ (by rfl) (now, .slice (some ⟨g9, 0, none⟩) 1 1) (by rfl) wf.heap.size hBw.size ?_
         intro g11 wl hg11 hg11b h11 hB
         refine hK.out _ _ (hHeld.later hB) (fun hHeld => ?_)
         try have hne : g11 ≠ g1 := by omega
         try replace hKw := hKw.later hB
         try replace hDL := hDL.later hB
         try replace hE1 := hE1.later hB
         try replace h6 := h6.later hB
         try replace h9 := h9.later hB
         try replace hg1b := Nat.lt_of_lt_of_le hg1b hB.size
         try replace hg9b := Nat.lt_of_lt_of_le hg9b hB.size
         replace hBw := bt hBw hB
         clear hK KK
         try simp only [Act.put, La1, La2, La3]
         refine wpAnyH_ready (rs := [12]) (by kernel_rfl) (by simp) ?_
         refine AllReadyH.cons (o := ⟨some 94, .call { callee := .builtin .append, args := #[.tmp 88, .tmp 93], argTypes := #[42, 42] }, 42, "ref.go:130", #[⟨6, .data⟩, ⟨11, .data⟩, ⟨6, .chain⟩], none⟩) rfl (fun KK hK => ?_) AllReadyH.nil
         ·
          refine step_appD (by rfl) _ _ (by rfl) (by rfl) (by rfl) h6 h11.dr (by intro e he; rw [List.mem_singleton.1 he]; rfl) hBw.size (by rw [List.nil_append, hlm]; simp; omega) ?_
          intro a12 n12 c12 wl h12 ht12 hk12 hB
          have hge6 := h6.ge
          refine hK.out _ _ (hHeld.turn ht12 (fun e => by have := hge6 _ e; omega)) (fun hHeld => ?_)
          replace hKw := hKw.turn ht12 (fun e => by have := hge6 _ e; omega)
          replace h9 := h9.turn ht12 (fun k hk e => rw_do_ne h9 h6 k hk e)
          replace hBw := hBw.trans hB
          clear hK KK
          try simp only [Act.put, La1, La2, La3]
          refine tk (i := 13) (oi := ⟨some 95, .nilCheck (.tmp 82), 0, "ref.go:130", #[⟨0, .data⟩, ⟨0, .phase⟩, ⟨1, .phase⟩, ⟨2, .phase⟩, ⟨3, .phase⟩, ⟨4, .phase⟩, ⟨5, .phase⟩, ⟨6, .phase⟩, ⟨7, .phase⟩, ⟨8, .phase⟩, ⟨9, .phase⟩, ⟨10, .phase⟩, ⟨11, .phase⟩, ⟨12, .phase⟩], none⟩) (v := .pointer (some ⟨K, 0, none⟩)) rfl (by kernel_rfl) (fun _ _ _ h => h) (Or.inl ⟨by rfl, ?_⟩) (by assumption) ?_
          ·
           intro wx hSw
           go_simp
           try with_reducible rfl
          try simp only [Act.put, La1, La2, La3]
          refine tk (i := 14) (oi := ⟨some 96, .fieldAddr 44 (.tmp 95) 3, 0, "ref.go:130", #[⟨13, .data⟩, ⟨0, .phase⟩, ⟨1, .phase⟩, ⟨2, .phase⟩, ⟨3, .phase⟩, ⟨4, .phase⟩, ⟨5, .phase⟩, ⟨6, .phase⟩, ⟨7, .phase⟩, ⟨8, .phase⟩, ⟨9, .phase⟩, ⟨10, .phase⟩, ⟨11, .phase⟩, ⟨12, .phase⟩], none⟩) (v := .pointer (some ⟨K, 3, none⟩)) rfl (by kernel_rfl) (fun _ _ _ h => h) (Or.inl ⟨by rfl, ?_⟩) (by assumption) ?_
          ·
           intro wx hSw
           go_simp
           try with_reducible rfl
          try simp only [Act.put, La1, La2, La3]
          refine wpAnyH_ready (rs := [15]) (by kernel_rfl) (by simp) ?_
          refine AllReadyH.cons (o := ⟨none, .store 42 (.tmp 96) (.tmp 94), 0, "ref.go:130", #[⟨14, .data⟩, ⟨12, .data⟩, ⟨12, .chain⟩, ⟨0, .phase⟩, ⟨1, .phase⟩, ⟨2, .phase⟩, ⟨3, .phase⟩, ⟨4, .phase⟩, ⟨5, .phase⟩, ⟨6, .phase⟩, ⟨7, .phase⟩, ⟨8, .phase⟩, ⟨9, .phase⟩, ⟨10, .phase⟩, ⟨11, .phase⟩, ⟨12, .phase⟩], none⟩) rfl (fun KK hK => ?_) AllReadyH.nil
          ·
           have k3 := (hKw.2 3 _ rfl).1
           have f3 := (hKw.2 3 _ rfl).2
           have kt := turn_set wl K 3 (.slice a12 n12 c12)
           go_simp
           refine hK.out _ _ (hHeld.turn kt (by omega)) (fun hHeld => ?_)
           clear k3 f3
           clear hK KK
           try simp only [Act.put, La1, La2, La3]
           refine wpAnyH_done (by kernel_rfl) ?_ _
           go_wp2
           go_meet
           case rel => exact ⟨rfl, wf, g9, a12, n12, c12, hbf', hKw.set 3 _, DO.turn h12 kt (fun k hk e => by have := h12.ge k hk; omega), RW.turn h9 kt (fun k hk e => by have := h9.ge k hk; omega), (Turn.of_below (S := fun k => k = K) hBw).trans kt⟩
      ·
       refine step_bsP (by rfl) _ (by rfl) p (by rfl) wf.heap.size hBw.size ?_
       intro g9 wl hg9 hg9b h9 hB
       refine hK.out _ _ (hHeld.later hB) (fun hHeld => ?_)
       try replace hKw := hKw.later hB
       try replace hDL := hDL.later hB
       try replace hE1 := hE1.later hB
       try replace h6 := h6.later hB
       try replace h11 := h11.later hB
       try replace hg1b := Nat.lt_of_lt_of_le hg1b hB.size
       try replace hg11b := Nat.lt_of_lt_of_le hg11b hB.size
       replace hBw := bt hBw hB
       clear hK KK
       try simp only [Act.put, La1, La2, La3]
       refine tk (i := 10) (oi := ⟨some 92, .build 64 #[(0, .tmp 89), (1, .tmp 91)], 64, "ref.go:130", #[⟨7, .data⟩, ⟨9, .data⟩], none⟩) (v := .agg #[.int .i64 now, .slice (some ⟨g9, 0, none⟩) 1 1]) rfl (by kernel_rfl) (fun _ _ _ h => h) (Or.inl ⟨by rfl, ?_⟩) (by assumption) ?_
       ·
        intro wx hSw
        go_simp
        try with_reducible rfl
       try simp only [Act.put, La1, La2, La3]
       refine wpAnyH_ready (rs := [6, 11]) (by kernel_rfl) (by simp) ?_
       refine AllReadyH.cons (o := ⟨some 88, .call { callee := .builtin .append, args := #[.tmp 83, .tmp 87], argTypes := #[42, 42] }, 42, "ref.go:130", #[⟨1, .data⟩, ⟨5, .data⟩], none⟩) rfl (fun KK hK => ?_) (AllReadyH.cons (o := ⟨some 93, .buildSlice 42 1 #[(0, .tmp 92)], 42, "ref.go:130", #[⟨10, .data⟩], none⟩) rfl (fun KK hK => ?_) AllReadyH.nil)
       ·
        refine step_appD (by rfl) _ _ (by rfl) (by rfl) (by rfl) hE1 hDL hone hBw.size hlm2 ?_
        intro a6 n6 c6 wl h6 ht6 hk6 hB
        refine hK.out _ _ (hHeld.turn ht6 (by intro e; have e2 : g1 = w.heap.size := (by injection e); omega)) (fun hHeld => ?_)
        replace hKw := hKw.turn ht6 (by intro e; have e2 : g1 = K := (by injection e); omega)
        try replace h9 := h9.turn ht6 (fun k hk e => rw_do_ne h9 hE1 k hk e)
        try replace h11 := h11.turn ht6 (by intro k hk e; have e1 : g11 = k := (by injection hk); have e2 : g1 = k := (by injection e); omega)
        try replace hg1b := Nat.lt_of_lt_of_le hg1b hB.size
        try replace hg9b := Nat.lt_of_lt_of_le hg9b hB.size
        try replace hg11b := Nat.lt_of_lt_of_le hg11b hB.size
        replace hBw := hBw.trans hB
        clear hK KK
        try simp only [Act.put, La1, La2, La3]
        refine wpAnyH_ready (rs := [11]) (by kernel_rfl) (by simp) ?_
        refine AllReadyH.cons (o := ⟨some 93, .buildSlice 42 1 #[(0, .tmp 92)], 42, "ref.go:130", #[⟨10, .data⟩], none⟩) rfl (fun KK hK => ?_) AllReadyH.nil
        ·
         refine step_bsD (by rfl) _ (by rfl) (now, .slice (some ⟨g9, 0, none⟩) 1 1) (by rfl) wf.heap.size hBw.size ?_
         intro g11 wl hg11 hg11b h11 hB
         refine hK.out _ _ (hHeld.later hB) (fun hHeld => ?_)
         try have hne : g11 ≠ g1 := by omega
         try replace hKw := hKw.later hB
         try replace hDL := hDL.later hB
         try replace hE1 := hE1.later hB
         try replace h6 := h6.later hB
         try replace h9 := h9.later hB
         try replace hg1b := Nat.lt_of_lt_of_le hg1b hB.size
         try replace hg9b := Nat.lt_of_lt_of_le hg9b hB.size
         replace hBw := bt hBw hB
         clear hK KK
         try simp only [Act.put, La1, La2, La3]
         refine wpAnyH_ready (rs := [12]) (by kernel_rfl) (by simp) ?_
         refine AllReadyH.cons (o := ⟨some 94, .call { callee := .builtin .append, args := #[.tmp 88, .tmp 93], argTypes := #[42, 42] }, 42, "ref.go:130", #[⟨6, .data⟩, ⟨11, .data⟩, ⟨6, .chain⟩], none⟩) rfl (fun KK hK => ?_) AllReadyH.nil
         ·
          refine step_appD (by rfl) _ _ (by rfl) (by rfl) (by rfl) h6 h11.dr (by intro e he; rw [List.mem_singleton.1 he]; rfl) hBw.size (by rw [List.nil_append, hlm]; simp; omega) ?_
          intro a12 n12 c12 wl h12 ht12 hk12 hB
          have hge6 := h6.ge
          refine hK.out _ _ (hHeld.turn ht12 (fun e => by have := hge6 _ e; omega)) (fun hHeld => ?_)
          replace hKw := hKw.turn ht12 (fun e => by have := hge6 _ e; omega)
          replace h9 := h9.turn ht12 (fun k hk e => rw_do_ne h9 h6 k hk e)
          replace hBw := hBw.trans hB
          clear hK KK
          try simp only [Act.put, La1, La2, La3]
          refine tk (i := 13) (oi := ⟨some 95, .nilCheck (.tmp 82), 0, "ref.go:130", #[⟨0, .data⟩, ⟨0, .phase⟩, ⟨1, .phase⟩, ⟨2, .phase⟩, ⟨3, .phase⟩, ⟨4, .phase⟩, ⟨5, .phase⟩, ⟨6, .phase⟩, ⟨7, .phase⟩, ⟨8, .phase⟩, ⟨9, .phase⟩, ⟨10, .phase⟩, ⟨11, .phase⟩, ⟨12, .phase⟩], none⟩) (v := .pointer (some ⟨K, 0, none⟩)) rfl (by kernel_rfl) (fun _ _ _ h => h) (Or.inl ⟨by rfl, ?_⟩) (by assumption) ?_
          ·
           intro wx hSw
           go_simp
           try with_reducible rfl
          try simp only [Act.put, La1, La2, La3]
          refine tk (i := 14) (oi := ⟨some 96, .fieldAddr 44 (.tmp 95) 3, 0, "ref.go:130", #[⟨13, .data⟩, ⟨0, .phase⟩, ⟨1, .phase⟩, ⟨2, .phase⟩, ⟨3, .phase⟩, ⟨4, .phase⟩, ⟨5, .phase⟩, ⟨6, .phase⟩, ⟨7, .phase⟩, ⟨8, .phase⟩, ⟨9, .phase⟩, ⟨10, .phase⟩, ⟨11, .phase⟩, ⟨12, .phase⟩], none⟩) (v := .pointer (some ⟨K, 3, none⟩)) rfl (by kernel_rfl) (fun _ _ _ h => h) (Or.inl ⟨by rfl, ?_⟩) (by assumption) ?_
          ·
           intro wx hSw
           go_simp
           try with_reducible rfl
          try simp only [Act.put, La1, La2, La3]
          refine wpAnyH_ready (rs := [15]) (by kernel_rfl) (by simp) ?_
          refine AllReadyH.cons (o := ⟨none, .store 42 (.tmp 96) (.tmp 94), 0, "ref.go:130", #[⟨14, .data⟩, ⟨12, .data⟩, ⟨12, .chain⟩, ⟨0, .phase⟩, ⟨1, .phase⟩, ⟨2, .phase⟩, ⟨3, .phase⟩, ⟨4, .phase⟩, ⟨5, .phase⟩, ⟨6, .phase⟩, ⟨7, .phase⟩, ⟨8, .phase⟩, ⟨9, .phase⟩, ⟨10, .phase⟩, ⟨11, .phase⟩, ⟨12, .phase⟩], none⟩) rfl (fun KK hK => ?_) AllReadyH.nil
          ·
           have k3 := (hKw.2 3 _ rfl).1
           have f3 := (hKw.2 3 _ rfl).2
           have kt := turn_set wl K 3 (.slice a12 n12 c12)
           go_simp
           refine hK.out _ _ (hHeld.turn kt (by omega)) (fun hHeld => ?_)
           clear k3 f3
           clear hK KK
           try simp only [Act.put, La1, La2, La3]
           refine wpAnyH_done (by kernel_rfl) ?_ _
           go_wp2
           go_meet
           case rel => exact ⟨rfl, wf, g9, a12, n12, c12, hbf', hKw.set 3 _, DO.turn h12 kt (fun k hk e => by have := h12.ge k hk; omega), RW.turn h9 kt (fun k hk e => by have := h9.ge k hk; omega), (Turn.of_below (S := fun k => k = K) hBw).trans kt⟩
       ·
        refine step_bsD (by rfl) _ (by rfl) (now, .slice (some ⟨g9, 0, none⟩) 1 1) (by rfl) wf.heap.size hBw.size ?_
        intro g11 wl hg11 hg11b h11 hB
        refine hK.out _ _ (hHeld.later hB) (fun hHeld => ?_)
        try have hne : g11 ≠ g1 := by omega
        try replace hKw := hKw.later hB
        try replace hDL := hDL.later hB
        try replace hE1 := hE1.later hB
        try replace h6 := h6.later hB
        try replace h9 := h9.later hB
        try replace hg1b := Nat.lt_of_lt_of_le hg1b hB.size
        try replace hg9b := Nat.lt_of_lt_of_le hg9b hB.size
        replace hBw := bt hBw hB
        clear hK KK
        try simp only [Act.put, La1, La2, La3]
        refine wpAnyH_ready (rs := [6]) (by kernel_rfl) (by simp) ?_
        refine AllReadyH.cons (o := ⟨some 88, .call { callee := .builtin .append, args := #[.tmp 83, .tmp 87], argTypes := #[42, 42] }, 42, "ref.go:130", #[⟨1, .data⟩, ⟨5, .data⟩], none⟩) rfl (fun KK hK => ?_) AllReadyH.nil
        ·
         refine step_appD (by rfl) _ _ (by rfl) (by rfl) (by rfl) hE1 hDL hone hBw.size hlm2 ?_
         intro a6 n6 c6 wl h6 ht6 hk6 hB
         refine hK.out _ _ (hHeld.turn ht6 (by intro e; have e2 : g1 = w.heap.size := (by injection e); omega)) (fun hHeld => ?_)
         replace hKw := hKw.turn ht6 (by intro e; have e2 : g1 = K := (by injection e); omega)
         try replace h9 := h9.turn ht6 (fun k hk e => rw_do_ne h9 hE1 k hk e)
         try replace h11 := h11.turn ht6 (by intro k hk e; have e1 : g11 = k := (by injection hk); have e2 : g1 = k := (by injection e); omega)
         try replace hg1b := Nat.lt_of_lt_of_le hg1b hB.size
         try replace hg9b := Nat.lt_of_lt_of_le hg9b hB.size
         try replace hg11b := Nat.lt_of_lt_of_le hg11b hB.size
         replace hBw := hBw.trans hB
         clear hK KK
         try simp only [Act.put, La1, La2, La3]
         refine wpAnyH_ready (rs := [12]) (by kernel_rfl) (by simp) ?_
         refine AllReadyH.cons (o := ⟨some 94, .call { callee := .builtin .append, args := #[.tmp 88, .tmp 93], argTypes := #[42, 42] }, 42, "ref.go:130", #[⟨6, .data⟩, ⟨11, .data⟩, ⟨6, .chain⟩], none⟩) rfl (fun KK hK => ?_) AllReadyH.nil
         ·
          refine step_appD (by rfl) _ _ (by rfl) (by rfl) (by rfl) h6 h11.dr (by intro e he; rw [List.mem_singleton.1 he]; rfl) hBw.size (by rw [List.nil_append, hlm]; simp; omega) ?_
          intro a12 n12 c12 wl h12 ht12 hk12 hB
          have hge6 := h6.ge
          refine hK.out _ _ (hHeld.turn ht12 (fun e => by have := hge6 _ e; omega)) (fun hHeld => ?_)
          replace hKw := hKw.turn ht12 (fun e => by have := hge6 _ e; omega)
          replace h9 := h9.turn ht12 (fun k hk e => rw_do_ne h9 h6 k hk e)
          replace hBw := hBw.trans hB
          clear hK KK
          try simp only [Act.put, La1, La2, La3]
          refine tk (i := 13) (oi := ⟨some 95, .nilCheck (.tmp 82), 0, "ref.go:130", #[⟨0, .data⟩, ⟨0, .phase⟩, ⟨1, .phase⟩, ⟨2, .phase⟩, ⟨3, .phase⟩, ⟨4, .phase⟩, ⟨5, .phase⟩, ⟨6, .phase⟩, ⟨7, .phase⟩, ⟨8, .phase⟩, ⟨9, .phase⟩, ⟨10, .phase⟩, ⟨11, .phase⟩, ⟨12, .phase⟩], none⟩) (v := .pointer (some ⟨K, 0, none⟩)) rfl (by kernel_rfl) (fun _ _ _ h => h) (Or.inl ⟨by rfl, ?_⟩) (by assumption) ?_
          ·
           intro wx hSw
           go_simp
           try with_reducible rfl
          try simp only [Act.put, La1, La2, La3]
          refine tk (i := 14) (oi := ⟨some 96, .fieldAddr 44 (.tmp 95) 3, 0, "ref.go:130", #[⟨13, .data⟩, ⟨0, .phase⟩, ⟨1, .phase⟩, ⟨2, .phase⟩, ⟨3, .phase⟩, ⟨4, .phase⟩, ⟨5, .phase⟩, ⟨6, .phase⟩, ⟨7, .phase⟩, ⟨8, .phase⟩, ⟨9, .phase⟩, ⟨10, .phase⟩, ⟨11, .phase⟩, ⟨12, .phase⟩], none⟩) (v := .pointer (some ⟨K, 3, none⟩)) rfl (by kernel_rfl) (fun _ _ _ h => h) (Or.inl ⟨by rfl, ?_⟩) (by assumption) ?_
          ·
           intro wx hSw
           go_simp
           try with_reducible rfl
          try simp only [Act.put, La1, La2, La3]
          refine wpAnyH_ready (rs := [15]) (by kernel_rfl) (by simp) ?_
          refine AllReadyH.cons (o := ⟨none, .store 42 (.tmp 96) (.tmp 94), 0, "ref.go:130", #[⟨14, .data⟩, ⟨12, .data⟩, ⟨12, .chain⟩, ⟨0, .phase⟩, ⟨1, .phase⟩, ⟨2, .phase⟩, ⟨3, .phase⟩, ⟨4, .phase⟩, ⟨5, .phase⟩, ⟨6, .phase⟩, ⟨7, .phase⟩, ⟨8, .phase⟩, ⟨9, .phase⟩, ⟨10, .phase⟩, ⟨11, .phase⟩, ⟨12, .phase⟩], none⟩) rfl (fun KK hK => ?_) AllReadyH.nil
          ·
           have k3 := (hKw.2 3 _ rfl).1
           have f3 := (hKw.2 3 _ rfl).2
           have kt := turn_set wl K 3 (.slice a12 n12 c12)
           go_simp
           refine hK.out _ _ (hHeld.turn kt (by omega)) (fun hHeld => ?_)
           clear k3 f3
           clear hK KK
           try simp only [Act.put, La1, La2, La3]
           refine wpAnyH_done (by kernel_rfl) ?_ _
           go_wp2
           go_meet
           case rel => exact ⟨rfl, wf, g9, a12, n12, c12, hbf', hKw.set 3 _, DO.turn h12 kt (fun k hk e => by have := h12.ge k hk; omega), RW.turn h9 kt (fun k hk e => by have := h9.ge k hk; omega), (Turn.of_below (S := fun k => k = K) hBw).trans kt⟩
     ·
      refine step_bsP (by rfl) _ (by rfl) p (by rfl) wf.heap.size hBw.size ?_
      intro g9 wl hg9 hg9b h9 hB
      refine hK.out _ _ (hHeld.later hB) (fun hHeld => ?_)
      try replace hKw := hKw.later hB
      try replace hDL := hDL.later hB
      try replace hE1 := hE1.later hB
      try replace h6 := h6.later hB
      try replace h11 := h11.later hB
      try replace hg1b := Nat.lt_of_lt_of_le hg1b hB.size
      try replace hg11b := Nat.lt_of_lt_of_le hg11b hB.size
      replace hBw := bt hBw hB
      clear hK KK
      try simp only [Act.put, La1, La2, La3]
      refine tk (i := 10) (oi := ⟨some 92, .build 64 #[(0, .tmp 89), (1, .tmp 91)], 64, "ref.go:130", #[⟨7, .data⟩, ⟨9, .data⟩], none⟩) (v := .agg #[.int .i64 now, .slice (some ⟨g9, 0, none⟩) 1 1]) rfl (by kernel_rfl) (fun _ _ _ h => h) (Or.inl ⟨by rfl, ?_⟩) (by assumption) ?_
      ·
       intro wx hSw
       go_simp
       try with_reducible rfl
      try simp only [Act.put, La1, La2, La3]
      refine wpAnyH_ready (rs := [1, 11]) (by kernel_rfl) (by simp) ?_
      refine AllReadyH.cons (o := ⟨some 83, .buildSlice 42 0 #[], 42, "ref.go:130", #[], none⟩) rfl (fun KK hK => ?_) (AllReadyH.cons (o := ⟨some 93, .buildSlice 42 1 #[(0, .tmp 92)], 42, "ref.go:130", #[⟨10, .data⟩], none⟩) rfl (fun KK hK => ?_) AllReadyH.nil)
      ·
       refine step_b0D (by rfl) (by rfl) wf.heap.size hBw.size ?_
       intro g1 wl hg1 hg1b hE1 hB
       refine hK.out _ _ (hHeld.later hB) (fun hHeld => ?_)
       try have hne : g11 ≠ g1 := by omega
       try replace hKw := hKw.later hB
       try replace hDL := hDL.later hB
       try replace h6 := h6.later hB
       try replace h9 := h9.later hB
       try replace h11 := h11.later hB
       try replace hg9b := Nat.lt_of_lt_of_le hg9b hB.size
       try replace hg11b := Nat.lt_of_lt_of_le hg11b hB.size
       have hg1f : wf.heap.size ≤ g1 := Nat.le_trans hBw.size hg1
       replace hBw := bt hBw hB
       clear hK KK
       try simp only [Act.put, La1, La2, La3]
       refine wpAnyH_ready (rs := [6, 11]) (by kernel_rfl) (by simp) ?_
       refine AllReadyH.cons (o := ⟨some 88, .call { callee := .builtin .append, args := #[.tmp 83, .tmp 87], argTypes := #[42, 42] }, 42, "ref.go:130", #[⟨1, .data⟩, ⟨5, .data⟩], none⟩) rfl (fun KK hK => ?_) (AllReadyH.cons (o := ⟨some 93, .buildSlice 42 1 #[(0, .tmp 92)], 42, "ref.go:130", #[⟨10, .data⟩], none⟩) rfl (fun KK hK => ?_) AllReadyH.nil)
       ·
        refine step_appD (by rfl) _ _ (by rfl) (by rfl) (by rfl) hE1 hDL hone hBw.size hlm2 ?_
        intro a6 n6 c6 wl h6 ht6 hk6 hB
        refine hK.out _ _ (hHeld.turn ht6 (by intro e; have e2 : g1 = w.heap.size := (by injection e); omega)) (fun hHeld => ?_)
        replace hKw := hKw.turn ht6 (by intro e; have e2 : g1 = K := (by injection e); omega)
        try replace h9 := h9.turn ht6 (fun k hk e => rw_do_ne h9 hE1 k hk e)
        try replace h11 := h11.turn ht6 (by intro k hk e; have e1 : g11 = k := (by injection hk); have e2 : g1 = k := (by injection e); omega)
        try replace hg1b := Nat.lt_of_lt_of_le hg1b hB.size
        try replace hg9b := Nat.lt_of_lt_of_le hg9b hB.size
        try replace hg11b := Nat.lt_of_lt_of_le hg11b hB.size
        replace hBw := hBw.trans hB
        clear hK KK
        try simp only [Act.put, La1, La2, La3]
        refine wpAnyH_ready (rs := [11]) (by kernel_rfl) (by simp) ?_
        refine AllReadyH.cons (o := ⟨some 93, .buildSlice 42 1 #[(0, .tmp 92)], 42, "ref.go:130", #[⟨10, .data⟩], none⟩) rfl (fun KK hK => ?_) AllReadyH.nil
        ·
         refine step_bsD (by rfl) _ (by rfl) (now, .slice (some ⟨g9, 0, none⟩) 1 1) (by rfl) wf.heap.size hBw.size ?_
         intro g11 wl hg11 hg11b h11 hB
         refine hK.out _ _ (hHeld.later hB) (fun hHeld => ?_)
         try have hne : g11 ≠ g1 := by omega
         try replace hKw := hKw.later hB
         try replace hDL := hDL.later hB
         try replace hE1 := hE1.later hB
         try replace h6 := h6.later hB
         try replace h9 := h9.later hB
         try replace hg1b := Nat.lt_of_lt_of_le hg1b hB.size
         try replace hg9b := Nat.lt_of_lt_of_le hg9b hB.size
         replace hBw := bt hBw hB
         clear hK KK
         try simp only [Act.put, La1, La2, La3]
         refine wpAnyH_ready (rs := [12]) (by kernel_rfl) (by simp) ?_
         refine AllReadyH.cons (o := ⟨some 94, .call { callee := .builtin .append, args := #[.tmp 88, .tmp 93], argTypes := #[42, 42] }, 42, "ref.go:130", #[⟨6, .data⟩, ⟨11, .data⟩, ⟨6, .chain⟩], none⟩) rfl (fun KK hK => ?_) AllReadyH.nil
         ·
          refine step_appD (by rfl) _ _ (by rfl) (by rfl) (by rfl) h6 h11.dr (by intro e he; rw [List.mem_singleton.1 he]; rfl) hBw.size (by rw [List.nil_append, hlm]; simp; omega) ?_
          intro a12 n12 c12 wl h12 ht12 hk12 hB
          have hge6 := h6.ge
          refine hK.out _ _ (hHeld.turn ht12 (fun e => by have := hge6 _ e; omega)) (fun hHeld => ?_)
          replace hKw := hKw.turn ht12 (fun e => by have := hge6 _ e; omega)
          replace h9 := h9.turn ht12 (fun k hk e => rw_do_ne h9 h6 k hk e)
          replace hBw := hBw.trans hB
          clear hK KK
          try simp only [Act.put, La1, La2, La3]
          refine tk (i := 13) (oi := ⟨some 95, .nilCheck (.tmp 82), 0, "ref.go:130", #[⟨0, .data⟩, ⟨0, .phase⟩, ⟨1, .phase⟩, ⟨2, .phase⟩, ⟨3, .phase⟩, ⟨4, .phase⟩, ⟨5, .phase⟩, ⟨6, .phase⟩, ⟨7, .phase⟩, ⟨8, .phase⟩, ⟨9, .phase⟩, ⟨10, .phase⟩, ⟨11, .phase⟩, ⟨12, .phase⟩], none⟩) (v := .pointer (some ⟨K, 0, none⟩)) rfl (by kernel_rfl) (fun _ _ _ h => h) (Or.inl ⟨by rfl, ?_⟩) (by assumption) ?_
          ·
           intro wx hSw
           go_simp
           try with_reducible rfl
          try simp only [Act.put, La1, La2, La3]
          refine tk (i := 14) (oi := ⟨some 96, .fieldAddr 44 (.tmp 95) 3, 0, "ref.go:130", #[⟨13, .data⟩, ⟨0, .phase⟩, ⟨1, .phase⟩, ⟨2, .phase⟩, ⟨3, .phase⟩, ⟨4, .phase⟩, ⟨5, .phase⟩, ⟨6, .phase⟩, ⟨7, .phase⟩, ⟨8, .phase⟩, ⟨9, .phase⟩, ⟨10, .phase⟩, ⟨11, .phase⟩, ⟨12, .phase⟩], none⟩) (v := .pointer (some ⟨K, 3, none⟩)) rfl (by kernel_rfl) (fun _ _ _ h => h) (Or.inl ⟨by rfl, ?_⟩) (by assumption) ?_
          ·
           intro wx hSw
           go_simp
           try with_reducible rfl
          try simp only [Act.put, La1, La2, La3]
          refine wpAnyH_ready (rs := [15]) (by kernel_rfl) (by simp) ?_
          refine AllReadyH.cons (o := ⟨none, .store 42 (.tmp 96) (.tmp 94), 0, "ref.go:130", #[⟨14, .data⟩, ⟨12, .data⟩, ⟨12, .chain⟩, ⟨0, .phase⟩, ⟨1, .phase⟩, ⟨2, .phase⟩, ⟨3, .phase⟩, ⟨4, .phase⟩, ⟨5, .phase⟩, ⟨6, .phase⟩, ⟨7, .phase⟩, ⟨8, .phase⟩, ⟨9, .phase⟩, ⟨10, .phase⟩, ⟨11, .phase⟩, ⟨12, .phase⟩], none⟩) rfl (fun KK hK => ?_) AllReadyH.nil
          ·
           have k3 := (hKw.2 3 _ rfl).1
           have f3 := (hKw.2 3 _ rfl).2
           have kt := turn_set wl K 3 (.slice a12 n12 c12)
           go_simp
           refine hK.out _ _ (hHeld.turn kt (by omega)) (fun hHeld => ?_)
           clear k3 f3
           clear hK KK
           try simp only [Act.put, La1, La2, La3]
           refine wpAnyH_done (by kernel_rfl) ?_ _
           go_wp2
           go_meet
           case rel => exact ⟨rfl, wf, g9, a12, n12, c12, hbf', hKw.set 3 _, DO.turn h12 kt (fun k hk e => by have := h12.ge k hk; omega), RW.turn h9 kt (fun k hk e => by have := h9.ge k hk; omega), (Turn.of_below (S := fun k => k = K) hBw).trans kt⟩
       ·
        refine step_bsD (by rfl) _ (by rfl) (now, .slice (some ⟨g9, 0, none⟩) 1 1) (by rfl) wf.heap.size hBw.size ?_
        intro g11 wl hg11 hg11b h11 hB
        refine hK.out _ _ (hHeld.later hB) (fun hHeld => ?_)
        try have hne : g11 ≠ g1 := by omega
        try replace hKw := hKw.later hB
        try replace hDL := hDL.later hB
        try replace hE1 := hE1.later hB
        try replace h6 := h6.later hB
        try replace h9 := h9.later hB
        try replace hg1b := Nat.lt_of_lt_of_le hg1b hB.size
        try replace hg9b := Nat.lt_of_lt_of_le hg9b hB.size
        replace hBw := bt hBw hB
        clear hK KK
        try simp only [Act.put, La1, La2, La3]
        refine wpAnyH_ready (rs := [6]) (by kernel_rfl) (by simp) ?_
        refine AllReadyH.cons (o := ⟨some 88, .call { callee := .builtin .append, args := #[.tmp 83, .tmp 87], argTypes := #[42, 42] }, 42, "ref.go:130", #[⟨1, .data⟩, ⟨5, .data⟩], none⟩) rfl (fun KK hK => ?_) AllReadyH.nil
        ·
         refine step_appD (by rfl) _ _ (by rfl) (by rfl) (by rfl) hE1 hDL hone hBw.size hlm2 ?_
         intro a6 n6 c6 wl h6 ht6 hk6 hB
         refine hK.out _ _ (hHeld.turn ht6 (by intro e; have e2 : g1 = w.heap.size := (by injection e); omega)) (fun hHeld => ?_)
         replace hKw := hKw.turn ht6 (by intro e; have e2 : g1 = K := (by injection e); omega)
         try replace h9 := h9.turn ht6 (fun k hk e => rw_do_ne h9 hE1 k hk e)
         try replace h11 := h11.turn ht6 (by intro k hk e; have e1 : g11 = k := (by injection hk); have e2 : g1 = k := (by injection e); omega)
         try replace hg1b := Nat.lt_of_lt_of_le hg1b hB.size
         try replace hg9b := Nat.lt_of_lt_of_le hg9b hB.size
         try replace hg11b := Nat.lt_of_lt_of_le hg11b hB.size
         replace hBw := hBw.trans hB
         clear hK KK
         try simp only [Act.put, La1, La2, La3]
         refine wpAnyH_ready (rs := [12]) (by kernel_rfl) (by simp) ?_
         refine AllReadyH.cons (o := ⟨some 94, .call { callee := .builtin .append, args := #[.tmp 88, .tmp 93], argTypes := #[42, 42] }, 42, "ref.go:130", #[⟨6, .data⟩, ⟨11, .data⟩, ⟨6, .chain⟩], none⟩) rfl (fun KK hK => ?_) AllReadyH.nil
         ·
          refine step_appD (by rfl) _ _ (by rfl) (by rfl) (by rfl) h6 h11.dr (by intro e he; rw [List.mem_singleton.1 he]; rfl) hBw.size (by rw [List.nil_append, hlm]; simp; omega) ?_
          intro a12 n12 c12 wl h12 ht12 hk12 hB
          have hge6 := h6.ge
          refine hK.out _ _ (hHeld.turn ht12 (fun e => by have := hge6 _ e; omega)) (fun hHeld => ?_)
          replace hKw := hKw.turn ht12 (fun e => by have := hge6 _ e; omega)
          replace h9 := h9.turn ht12 (fun k hk e => rw_do_ne h9 h6 k hk e)
          replace hBw := hBw.trans hB
          clear hK KK
          try simp only [Act.put, La1, La2, La3]
          refine tk (i := 13) (oi := ⟨some 95, .nilCheck (.tmp 82), 0, "ref.go:130", #[⟨0, .data⟩, ⟨0, .phase⟩, ⟨1, .phase⟩, ⟨2, .phase⟩, ⟨3, .phase⟩, ⟨4, .phase⟩, ⟨5, .phase⟩, ⟨6, .phase⟩, ⟨7, .phase⟩, ⟨8, .phase⟩, ⟨9, .phase⟩, ⟨10, .phase⟩, ⟨11, .phase⟩, ⟨12, .phase⟩], none⟩) (v := .pointer (some ⟨K, 0, none⟩)) rfl (by kernel_rfl) (fun _ _ _ h => h) (Or.inl ⟨by rfl, ?_⟩) (by assumption) ?_
          ·
           intro wx hSw
           go_simp
           try with_reducible rfl
          try simp only [Act.put, La1, La2, La3]
          refine tk (i := 14) (oi := ⟨some 96, .fieldAddr 44 (.tmp 95) 3, 0, "ref.go:130", #[⟨13, .data⟩, ⟨0, .phase⟩, ⟨1, .phase⟩, ⟨2, .phase⟩, ⟨3, .phase⟩, ⟨4, .phase⟩, ⟨5, .phase⟩, ⟨6, .phase⟩, ⟨7, .phase⟩, ⟨8, .phase⟩, ⟨9, .phase⟩, ⟨10, .phase⟩, ⟨11, .phase⟩, ⟨12, .phase⟩], none⟩) (v := .pointer (some ⟨K, 3, none⟩)) rfl (by kernel_rfl) (fun _ _ _ h => h) (Or.inl ⟨by rfl, ?_⟩) (by assumption) ?_
          ·
           intro wx hSw
           go_simp
           try with_reducible rfl
          try simp only [Act.put, La1, La2, La3]
          refine wpAnyH_ready (rs := [15]) (by kernel_rfl) (by simp) ?_
          refine AllReadyH.cons (o := ⟨none, .store 42 (.tmp 96) (.tmp 94), 0, "ref.go:130", #[⟨14, .data⟩, ⟨12, .data⟩, ⟨12, .chain⟩, ⟨0, .phase⟩, ⟨1, .phase⟩, ⟨2, .phase⟩, ⟨3, .phase⟩, ⟨4, .phase⟩, ⟨5, .phase⟩, ⟨6, .phase⟩, ⟨7, .phase⟩, ⟨8, .phase⟩, ⟨9, .phase⟩, ⟨10, .phase⟩, ⟨11, .phase⟩, ⟨12, .phase⟩], none⟩) rfl (fun KK hK => ?_) AllReadyH.nil
          ·
           have k3 := (hKw.2 3 _ rfl).1
           have f3 := (hKw.2 3 _ rfl).2
           have kt := turn_set wl K 3 (.slice a12 n12 c12)
           go_simp
           refine hK.out _ _ (hHeld.turn kt (by omega)) (fun hHeld => ?_)
           clear k3 f3
           clear hK KK
           try simp only [Act.put, La1, La2, La3]
           refine wpAnyH_done (by kernel_rfl) ?_ _
           go_wp2
           go_meet
           case rel => exact ⟨rfl, wf, g9, a12, n12, c12, hbf', hKw.set 3 _, DO.turn h12 kt (fun k hk e => by have := h12.ge k hk; omega), RW.turn h9 kt (fun k hk e => by have := h9.ge k hk; omega), (Turn.of_below (S := fun k => k = K) hBw).trans kt⟩
      ·
       refine step_bsD (by rfl) _ (by rfl) (now, .slice (some ⟨g9, 0, none⟩) 1 1) (by rfl) wf.heap.size hBw.size ?_
       intro g11 wl hg11 hg11b h11 hB
       refine hK.out _ _ (hHeld.later hB) (fun hHeld => ?_)
       try have hne : g11 ≠ g1 := by omega
       try replace hKw := hKw.later hB
       try replace hDL := hDL.later hB
       try replace hE1 := hE1.later hB
       try replace h6 := h6.later hB
       try replace h9 := h9.later hB
       try replace hg1b := Nat.lt_of_lt_of_le hg1b hB.size
       try replace hg9b := Nat.lt_of_lt_of_le hg9b hB.size
       replace hBw := bt hBw hB
       clear hK KK
       try simp only [Act.put, La1, La2, La3]
       refine wpAnyH_ready (rs := [1]) (by kernel_rfl) (by simp) ?_
       refine AllReadyH.cons (o := ⟨some 83, .buildSlice 42 0 #[], 42, "ref.go:130", #[], none⟩) rfl (fun KK hK => ?_) AllReadyH.nil
       ·
        refine step_b0D (by rfl) (by rfl) wf.heap.size hBw.size ?_
        intro g1 wl hg1 hg1b hE1 hB
        refine hK.out _ _ (hHeld.later hB) (fun hHeld => ?_)
        try have hne : g11 ≠ g1 := by omega
        try replace hKw := hKw.later hB
        try replace hDL := hDL.later hB
        try replace h6 := h6.later hB
        try replace h9 := h9.later hB
        try replace h11 := h11.later hB
        try replace hg9b := Nat.lt_of_lt_of_le hg9b hB.size
        try replace hg11b := Nat.lt_of_lt_of_le hg11b hB.size
        have hg1f : wf.heap.size ≤ g1 := Nat.le_trans hBw.size hg1
        replace hBw := bt hBw hB
        clear hK KK
        try simp only [Act.put, La1, La2, La3]
        refine wpAnyH_ready (rs := [6]) (by kernel_rfl) (by simp) ?_
        refine AllReadyH.cons (o := ⟨some 88, .call { callee := .builtin .append, args := #[.tmp 83, .tmp 87], argTypes := #[42, 42] }, 42, "ref.go:130", #[⟨1, .data⟩, ⟨5, .data⟩], none⟩) rfl (fun KK hK => ?_) AllReadyH.nil
        ·
         refine step_appD (by rfl) _ _ (by rfl) (by rfl) (by rfl) hE1 hDL hone hBw.size hlm2 ?_
         intro a6 n6 c6 wl h6 ht6 hk6 hB
         refine hK.out _ _ (hHeld.turn ht6 (by intro e; have e2 : g1 = w.heap.size := (by injection e); omega)) (fun hHeld => ?_)
         replace hKw := hKw.turn ht6 (by intro e; have e2 : g1 = K := (by injection e); omega)
         try replace h9 := h9.turn ht6 (fun k hk e => rw_do_ne h9 hE1 k hk e)
         try replace h11 := h11.turn ht6 (by intro k hk e; have e1 : g11 = k := (by injection hk); have e2 : g1 = k := (by injection e); omega)
         try replace hg1b := Nat.lt_of_lt_of_le hg1b hB.size
         try replace hg9b := Nat.lt_of_lt_of_le hg9b hB.size
         try replace hg11b := Nat.lt_of_lt_of_le hg11b hB.size
         replace hBw := hBw.trans hB
         clear hK KK
         try simp only [Act.put, La1, La2, La3]
         refine wpAnyH_ready (rs := [12]) (by kernel_rfl) (by simp) ?_
         refine AllReadyH.cons (o := ⟨some 94, .call { callee := .builtin .append, args := #[.tmp 88, .tmp 93], argTypes := #[42, 42] }, 42, "ref.go:130", #[⟨6, .data⟩, ⟨11, .data⟩, ⟨6, .chain⟩], none⟩) rfl (fun KK hK => ?_) AllReadyH.nil
         ·
          refine step_appD (by rfl) _ _ (by rfl) (by rfl) (by rfl) h6 h11.dr (by intro e he; rw [List.mem_singleton.1 he]; rfl) hBw.size (by rw [List.nil_append, hlm]; simp; omega) ?_
          intro a12 n12 c12 wl h12 ht12 hk12 hB
          have hge6 := h6.ge
          refine hK.out _ _ (hHeld.turn ht12 (fun e => by have := hge6 _ e; omega)) (fun hHeld => ?_)
          replace hKw := hKw.turn ht12 (fun e => by have := hge6 _ e; omega)
          replace h9 := h9.turn ht12 (fun k hk e => rw_do_ne h9 h6 k hk e)
          replace hBw := hBw.trans hB
          clear hK KK
          try simp only [Act.put, La1, La2, La3]
          refine tk (i := 13) (oi := ⟨some 95, .nilCheck (.tmp 82), 0, "ref.go:130", #[⟨0, .data⟩, ⟨0, .phase⟩, ⟨1, .phase⟩, ⟨2, .phase⟩, ⟨3, .phase⟩, ⟨4, .phase⟩, ⟨5, .phase⟩, ⟨6, .phase⟩, ⟨7, .phase⟩, ⟨8, .phase⟩, ⟨9, .phase⟩, ⟨10, .phase⟩, ⟨11, .phase⟩, ⟨12, .phase⟩], none⟩) (v := .pointer (some ⟨K, 0, none⟩)) rfl (by kernel_rfl) (fun _ _ _ h => h) (Or.inl ⟨by rfl, ?_⟩) (by assumption) ?_
          ·
           intro wx hSw
           go_simp
           try with_reducible rfl
          try simp only [Act.put, La1, La2, La3]
          refine tk (i := 14) (oi := ⟨some 96, .fieldAddr 44 (.tmp 95) 3, 0, "ref.go:130", #[⟨13, .data⟩, ⟨0, .phase⟩, ⟨1, .phase⟩, ⟨2, .phase⟩, ⟨3, .phase⟩, ⟨4, .phase⟩, ⟨5, .phase⟩, ⟨6, .phase⟩, ⟨7, .phase⟩, ⟨8, .phase⟩, ⟨9, .phase⟩, ⟨10, .phase⟩, ⟨11, .phase⟩, ⟨12, .phase⟩], none⟩) (v := .pointer (some ⟨K, 3, none⟩)) rfl (by kernel_rfl) (fun _ _ _ h => h) (Or.inl ⟨by rfl, ?_⟩) (by assumption) ?_
          ·
           intro wx hSw
           go_simp
           try with_reducible rfl
          try simp only [Act.put, La1, La2, La3]
          refine wpAnyH_ready (rs := [15]) (by kernel_rfl) (by simp) ?_
          refine AllReadyH.cons (o := ⟨none, .store 42 (.tmp 96) (.tmp 94), 0, "ref.go:130", #[⟨14, .data⟩, ⟨12, .data⟩, ⟨12, .chain⟩, ⟨0, .phase⟩, ⟨1, .phase⟩, ⟨2, .phase⟩, ⟨3, .phase⟩, ⟨4, .phase⟩, ⟨5, .phase⟩, ⟨6, .phase⟩, ⟨7, .phase⟩, ⟨8, .phase⟩, ⟨9, .phase⟩, ⟨10, .phase⟩, ⟨11, .phase⟩, ⟨12, .phase⟩], none⟩) rfl (fun KK hK => ?_) AllReadyH.nil
          ·
           have k3 := (hKw.2 3 _ rfl).1
           have f3 := (hKw.2 3 _ rfl).2
           have kt := turn_set wl K 3 (.slice a12 n12 c12)
           go_simp
           refine hK.out _ _ (hHeld.turn kt (by omega)) (fun hHeld => ?_)
           clear k3 f3
           clear hK KK
           try simp only [Act.put, La1, La2, La3]
           refine wpAnyH_done (by kernel_rfl) ?_ _
           go_wp2
           go_meet
           case rel => exact ⟨rfl, wf, g9, a12, n12, c12, hbf', hKw.set 3 _, DO.turn h12 kt (fun k hk e => by have := h12.ge k hk; omega), RW.turn h9 kt (fun k hk e => by have := h9.ge k hk; omega), (Turn.of_below (S := fun k => k = K) hBw).trans kt⟩
    ·
     refine step_bsP (by rfl) _ (by rfl) p (by rfl) wf.heap.size hBw.size ?_
     intro g9 wl hg9 hg9b h9 hB
     refine hK.out _ _ (hHeld.later hB) (fun hHeld => ?_)
     try replace hKw := hKw.later hB
     try replace hDL := hDL.later hB
     try replace hE1 := hE1.later hB
     try replace h6 := h6.later hB
     try replace h11 := h11.later hB
     try replace hg1b := Nat.lt_of_lt_of_le hg1b hB.size
     try replace hg11b := Nat.lt_of_lt_of_le hg11b hB.size
     replace hBw := bt hBw hB
     clear hK KK
     try simp only [Act.put, La1, La2, La3]
     refine tk (i := 10) (oi := ⟨some 92, .build 64 #[(0, .tmp 89), (1, .tmp 91)], 64, "ref.go:130", #[⟨7, .data⟩, ⟨9, .data⟩], none⟩) (v := .agg #[.int .i64 now, .slice (some ⟨g9, 0, none⟩) 1 1]) rfl (by kernel_rfl) (fun _ _ _ h => h) (Or.inl ⟨by rfl, ?_⟩) (by assumption) ?_
     ·
      intro wx hSw
      go_simp
      try with_reducible rfl
     try simp only [Act.put, La1, La2, La3]
     refine wpAnyH_ready (rs := [1, 5, 11]) (by kernel_rfl) (by simp) ?_
     refine AllReadyH.cons (o := ⟨some 83, .buildSlice 42 0 #[], 42, "ref.go:130", #[], none⟩) rfl (fun KK hK => ?_) (AllReadyH.cons (o := ⟨some 87, .load 42 (.tmp 86), 42, "ref.go:130", #[⟨4, .data⟩], none⟩) rfl (fun KK hK => ?_) (AllReadyH.cons (o := ⟨some 93, .buildSlice 42 1 #[(0, .tmp 92)], 42, "ref.go:130", #[⟨10, .data⟩], none⟩) rfl (fun KK hK => ?_) AllReadyH.nil))
     ·
      refine step_b0D (by rfl) (by rfl) wf.heap.size hBw.size ?_
      intro g1 wl hg1 hg1b hE1 hB
      refine hK.out _ _ (hHeld.later hB) (fun hHeld => ?_)
      try have hne : g11 ≠ g1 := by omega
      try replace hKw := hKw.later hB
      try replace hDL := hDL.later hB
      try replace h6 := h6.later hB
      try replace h9 := h9.later hB
      try replace h11 := h11.later hB
      try replace hg9b := Nat.lt_of_lt_of_le hg9b hB.size
      try replace hg11b := Nat.lt_of_lt_of_le hg11b hB.size
      have hg1f : wf.heap.size ≤ g1 := Nat.le_trans hBw.size hg1
      replace hBw := bt hBw hB
      clear hK KK
      try simp only [Act.put, La1, La2, La3]
      refine wpAnyH_ready (rs := [5, 11]) (by kernel_rfl) (by simp) ?_
      refine AllReadyH.cons (o := ⟨some 87, .load 42 (.tmp 86), 42, "ref.go:130", #[⟨4, .data⟩], none⟩) rfl (fun KK hK => ?_) (AllReadyH.cons (o := ⟨some 93, .buildSlice 42 1 #[(0, .tmp 92)], 42, "ref.go:130", #[⟨10, .data⟩], none⟩) rfl (fun KK hK => ?_) AllReadyH.nil)
      ·
       have k3 := (hKw.2 3 _ rfl).1
       go_simp
       refine hK.out _ _ hHeld (fun hHeld => ?_)
       clear k3
       clear hK KK
       try simp only [Act.put, La1, La2, La3]
       refine wpAnyH_ready (rs := [6, 11]) (by kernel_rfl) (by simp) ?_
       refine AllReadyH.cons (o := ⟨some 88, .call { callee := .builtin .append, args := #[.tmp 83, .tmp 87], argTypes := #[42, 42] }, 42, "ref.go:130", #[⟨1, .data⟩, ⟨5, .data⟩], none⟩) rfl (fun KK hK => ?_) (AllReadyH.cons (o := ⟨some 93, .buildSlice 42 1 #[(0, .tmp 92)], 42, "ref.go:130", #[⟨10, .data⟩], none⟩) rfl (fun KK hK => ?_) AllReadyH.nil)
       ·
        refine step_appD (by rfl) _ _ (by rfl) (by rfl) (by rfl) hE1 hDL hone hBw.size hlm2 ?_
        intro a6 n6 c6 wl h6 ht6 hk6 hB
        refine hK.out _ _ (hHeld.turn ht6 (by intro e; have e2 : g1 = w.heap.size := (by injection e); omega)) (fun hHeld => ?_)
        replace hKw := hKw.turn ht6 (by intro e; have e2 : g1 = K := (by injection e); omega)
        try replace h9 := h9.turn ht6 (fun k hk e => rw_do_ne h9 hE1 k hk e)
        try replace h11 := h11.turn ht6 (by intro k hk e; have e1 : g11 = k := (by injection hk); have e2 : g1 = k := (by injection e); omega)
        try replace hg1b := Nat.lt_of_lt_of_le hg1b hB.size
        try replace hg9b := Nat.lt_of_lt_of_le hg9b hB.size
        try replace hg11b := Nat.lt_of_lt_of_le hg11b hB.size
        replace hBw := hBw.trans hB
        clear hK KK
        try simp only [Act.put, La1, La2, La3]
        refine wpAnyH_ready (rs := [11]) (by kernel_rfl) (by simp) ?_
        refine AllReadyH.cons (o := ⟨some 93, .buildSlice 42 1 #[(0, .tmp 92)], 42, "ref.go:130", #[⟨10, .data⟩], none⟩) rfl (fun KK hK => ?_) AllReadyH.nil
        ·
         refine step_bsD (by rfl) _ (by rfl) (now, .slice (some ⟨g9, 0, none⟩) 1 1) (by rfl) wf.heap.size hBw.size ?_
         intro g11 wl hg11 hg11b h11 hB
         refine hK.out _ _ (hHeld.later hB) (fun hHeld => ?_)
         try have hne : g11 ≠ g1 := by omega
         try replace hKw := hKw.later hB
         try replace hDL := hDL.later hB
         try replace hE1 := hE1.later hB
         try replace h6 := h6.later hB
         try replace h9 := h9.later hB
         try replace hg1b := Nat.lt_of_lt_of_le hg1b hB.size
         try replace hg9b := Nat.lt_of_lt_of_le hg9b hB.size
         replace hBw := bt hBw hB
         clear hK KK
         try simp only [Act.put, La1, La2, La3]
         refine wpAnyH_ready (rs := [12]) (by kernel_rfl) (by simp) ?_
         refine AllReadyH.cons (o := ⟨some 94, .call { callee := .builtin .append, args := #[.tmp 88, .tmp 93], argTypes := #[42, 42] }, 42, "ref.go:130", #[⟨6, .data⟩, ⟨11, .data⟩, ⟨6, .chain⟩], none⟩) rfl (fun KK hK => ?_) AllReadyH.nil
         ·
          refine step_appD (by rfl) _ _ (by rfl) (by rfl) (by rfl) h6 h11.dr (by intro e he; rw [List.mem_singleton.1 he]; rfl) hBw.size (by rw [List.nil_append, hlm]; simp; omega) ?_
          intro a12 n12 c12 wl h12 ht12 hk12 hB
          have hge6 := h6.ge
          refine hK.out _ _ (hHeld.turn ht12 (fun e => by have := hge6 _ e; omega)) (fun hHeld => ?_)
          replace hKw := hKw.turn ht12 (fun e => by have := hge6 _ e; omega)
          replace h9 := h9.turn ht12 (fun k hk e => rw_do_ne h9 h6 k hk e)
          replace hBw := hBw.trans hB
          clear hK KK
          try simp only [Act.put, La1, La2, La3]
          refine tk (i := 13) (oi := ⟨some 95, .nilCheck (.tmp 82), 0, "ref.go:130", #[⟨0, .data⟩, ⟨0, .phase⟩, ⟨1, .phase⟩, ⟨2, .phase⟩, ⟨3, .phase⟩, ⟨4, .phase⟩, ⟨5, .phase⟩, ⟨6, .phase⟩, ⟨7, .phase⟩, ⟨8, .phase⟩, ⟨9, .phase⟩, ⟨10, .phase⟩, ⟨11, .phase⟩, ⟨12, .phase⟩], none⟩) (v := .pointer (some ⟨K, 0, none⟩)) rfl (by kernel_rfl) (fun _ _ _ h => h) (Or.inl ⟨by rfl, ?_⟩) (by assumption) ?_
          ·
           intro wx hSw
           go_simp
           try with_reducible rfl
          try simp only [Act.put, La1, La2, La3]
          refine tk (i := 14) (oi := ⟨some 96, .fieldAddr 44 (.tmp 95) 3, 0, "ref.go:130", #[⟨13, .data⟩, ⟨0, .phase⟩, ⟨1, .phase⟩, ⟨2, .phase⟩, ⟨3, .phase⟩, ⟨4, .phase⟩, ⟨5, .phase⟩, ⟨6, .phase⟩, ⟨7, .phase⟩, ⟨8, .phase⟩, ⟨9, .phase⟩, ⟨10, .phase⟩, ⟨11, .phase⟩, ⟨12, .phase⟩], none⟩) (v := .pointer (some ⟨K, 3, none⟩)) rfl (by kernel_rfl) (fun _ _ _ h => h) (Or.inl ⟨by rfl, ?_⟩) (by assumption) ?_
          ·
           intro wx hSw
           go_simp
           try with_reducible rfl
          try simp only [Act.put, La1, La2, La3]
          refine wpAnyH_ready (rs := [15]) (by kernel_rfl) (by simp) ?_
          refine AllReadyH.cons (o := ⟨none, .store 42 (.tmp 96) (.tmp 94), 0, "ref.go:130", #[⟨14, .data⟩, ⟨12, .data⟩, ⟨12, .chain⟩, ⟨0, .phase⟩, ⟨1, .phase⟩, ⟨2, .phase⟩, ⟨3, .phase⟩, ⟨4, .phase⟩, ⟨5, .phase⟩, ⟨6, .phase⟩, ⟨7, .phase⟩, ⟨8, .phase⟩, ⟨9, .phase⟩, ⟨10, .phase⟩, ⟨11, .phase⟩, ⟨12, .phase⟩], none⟩) rfl (fun KK hK => ?_) AllReadyH.nil
          ·
           have k3 := (hKw.2 3 _ rfl).1
           have f3 := (hKw.2 3 _ rfl).2
           have kt := turn_set wl K 3 (.slice a12 n12 c12)
           go_simp
           refine hK.out _ _ (hHeld.turn kt (by omega)) (fun hHeld => ?_)
           clear k3 f3
           clear hK KK
           try simp only [Act.put, La1, La2, La3]
           refine wpAnyH_done (by kernel_rfl) ?_ _
           go_wp2
           go_meet
           case rel => exact ⟨rfl, wf, g9, a12, n12, c12, hbf', hKw.set 3 _, DO.turn h12 kt (fun k hk e => by have := h12.ge k hk; omega), RW.turn h9 kt (fun k hk e => by have := h9.ge k hk; omega), (Turn.of_below (S := fun k => k = K) hBw).trans kt⟩
       ·
        refine step_bsD (by rfl) _ (by rfl) (now, .slice (some ⟨g9, 0, none⟩) 1 1) (by rfl) wf.heap.size hBw.size ?_
        intro g11 wl hg11 hg11b h11 hB
        refine hK.out _ _ (hHeld.later hB) (fun hHeld => ?_)
        try have hne : g11 ≠ g1 := by omega
        try replace hKw := hKw.later hB
        try replace hDL := hDL.later hB
        try replace hE1 := hE1.later hB
        try replace h6 := h6.later hB
        try replace h9 := h9.later hB
        try replace hg1b := Nat.lt_of_lt_of_le hg1b hB.size
        try replace hg9b := Nat.lt_of_lt_of_le hg9b hB.size
        replace hBw := bt hBw hB
        clear hK KK
        try simp only [Act.put, La1, La2, La3]
        refine wpAnyH_ready (rs := [6]) (by kernel_rfl) (by simp) ?_
        refine AllReadyH.cons (o := ⟨some 88, .call { callee := .builtin .append, args := #[.tmp 83, .tmp 87], argTypes := #[42, 42] }, 42, "ref.go:130", #[⟨1, .data⟩, ⟨5, .data⟩], none⟩) rfl (fun KK hK => ?_) AllReadyH.nil
        ·
         refine step_appD (by rfl) _ _ (by rfl) (by rfl) (by rfl) hE1 hDL hone hBw.size hlm2 ?_
         intro a6 n6 c6 wl h6 ht6 hk6 hB
         refine hK.out _ _ (hHeld.turn ht6 (by intro e; have e2 : g1 = w.heap.size := (by injection e); omega)) (fun hHeld => ?_)
         replace hKw := hKw.turn ht6 (by intro e; have e2 : g1 = K := (by injection e); omega)
         try replace h9 := h9.turn ht6 (fun k hk e => rw_do_ne h9 hE1 k hk e)
         try replace h11 := h11.turn ht6 (by intro k hk e; have e1 : g11 = k := (by injection hk); have e2 : g1 = k := (by injection e); omega)
         try replace hg1b := Nat.lt_of_lt_of_le hg1b hB.size
         try replace hg9b := Nat.lt_of_lt_of_le hg9b hB.size
         try replace hg11b := Nat.lt_of_lt_of_le hg11b hB.size
         replace hBw := hBw.trans hB
         clear hK KK
         try simp only [Act.put, La1, La2, La3]
         refine wpAnyH_ready (rs := [12]) (by kernel_rfl) (by simp) ?_
         refine AllReadyH.cons (o := ⟨some 94, .call { callee := .builtin .append, args := #[.tmp 88, .tmp 93], argTypes := #[42, 42] }, 42, "ref.go:130", #[⟨6, .data⟩, ⟨11, .data⟩, ⟨6, .chain⟩], none⟩) rfl (fun KK hK => ?_) AllReadyH.nil
         ·
          refine step_appD (by rfl) _ _ (by rfl) (by rfl) (by rfl) h6 h11.dr (by intro e he; rw [List.mem_singleton.1 he]; rfl) hBw.size (by rw [List.nil_append, hlm]; simp; omega) ?_
          intro a12 n12 c12 wl h12 ht12 hk12 hB
          have hge6 := h6.ge
          refine hK.out _ _ (hHeld.turn ht12 (fun e => by have := hge6 _ e; omega)) (fun hHeld => ?_)
          replace hKw := hKw.turn ht12 (fun e => by have := hge6 _ e; omega)
          replace h9 := h9.turn ht12 (fun k hk e => rw_do_ne h9 h6 k hk e)
          replace hBw := hBw.trans hB
          clear hK KK
          try simp only [Act.put, La1, La2, La3]
          refine tk (i := 13) (oi := ⟨some 95, .nilCheck (.tmp 82), 0, "ref.go:130", #[⟨0, .data⟩, ⟨0, .phase⟩, ⟨1, .phase⟩, ⟨2, .phase⟩, ⟨3, .phase⟩, ⟨4, .phase⟩, ⟨5, .phase⟩, ⟨6, .phase⟩, ⟨7, .phase⟩, ⟨8, .phase⟩, ⟨9, .phase⟩, ⟨10, .phase⟩, ⟨11, .phase⟩, ⟨12, .phase⟩], none⟩) (v := .pointer (some ⟨K, 0, none⟩)) rfl (by kernel_rfl) (fun _ _ _ h => h) (Or.inl ⟨by rfl, ?_⟩) (by assumption) ?_
          ·
           intro wx hSw
           go_simp
           try with_reducible rfl
          try simp only [Act.put, La1, La2, La3]
          refine tk (i := 14) (oi := ⟨some 96, .fieldAddr 44 (.tmp 95) 3, 0, "ref.go:130", #[⟨13, .data⟩, ⟨0, .phase⟩, ⟨1, .phase⟩, ⟨2, .phase⟩, ⟨3, .phase⟩, ⟨4, .phase⟩, ⟨5, .phase⟩, ⟨6, .phase⟩, ⟨7, .phase⟩, ⟨8, .phase⟩, ⟨9, .phase⟩, ⟨10, .phase⟩, ⟨11, .phase⟩, ⟨12, .phase⟩], none⟩) (v := .pointer (some ⟨K, 3, none⟩)) rfl (by kernel_rfl) (fun _ _ _ h => h) (Or.inl ⟨by rfl, ?_⟩) (by assumption) ?_
          ·
           intro wx hSw
           go_simp
           try with_reducible rfl
          try simp only [Act.put, La1, La2, La3]
          refine wpAnyH_ready (rs := [15]) (by kernel_rfl) (by simp) ?_
          refine AllReadyH.cons (o := ⟨none, .store 42 (.tmp 96) (.tmp 94), 0, "ref.go:130", #[⟨14, .data⟩, ⟨12, .data⟩, ⟨12, .chain⟩, ⟨0, .phase⟩, ⟨1, .phase⟩, ⟨2, .phase⟩, ⟨3, .phase⟩, ⟨4, .phase⟩, ⟨5, .phase⟩, ⟨6, .phase⟩, ⟨7, .phase⟩, ⟨8, .phase⟩, ⟨9, .phase⟩, ⟨10, .phase⟩, ⟨11, .phase⟩, ⟨12, .phase⟩], none⟩) rfl (fun KK hK => ?_) AllReadyH.nil
          ·
           have k3 := (hKw.2 3 _ rfl).1
           have f3 := (hKw.2 3 _ rfl).2
           have kt := turn_set wl K 3 (.slice a12 n12 c12)
           go_simp
           refine hK.out _ _ (hHeld.turn kt (by omega)) (fun hHeld => ?_)
           clear k3 f3
           clear hK KK
           try simp only [Act.put, La1, La2, La3]
           refine wpAnyH_done (by kernel_rfl) ?_ _
           go_wp2
           go_meet
           case rel => exact ⟨rfl, wf, g9, a12, n12, c12, hbf', hKw.set 3 _, DO.turn h12 kt (fun k hk e => by have := h12.ge k hk; omega), RW.turn h9 kt (fun k hk e => by have := h9.ge k hk; omega), (Turn.of_below (S := fun k => k = K) hBw).trans kt⟩
      ·
       refine step_bsD (by rfl) _ (by rfl) (now, .slice (some ⟨g9, 0, none⟩) 1 1) (by rfl) wf.heap.size hBw.size ?_
       intro g11 wl hg11 hg11b h11 hB
       refine hK.out _ _ (hHeld.later hB) (fun hHeld => ?_)
       try have hne : g11 ≠ g1 := by omega
       try replace hKw := hKw.later hB
       try replace hDL := hDL.later hB
       try replace hE1 := hE1.later hB
       try replace h6 := h6.later hB
       try replace h9 := h9.later hB
       try replace hg1b := Nat.lt_of_lt_of_le hg1b hB.size
       try replace hg9b := Nat.lt_of_lt_of_le hg9b hB.size
       replace hBw := bt hBw hB
       clear hK KK
       try simp only [Act.put, La1, La2, La3]
       refine wpAnyH_ready (rs := [5]) (by kernel_rfl) (by simp) ?_
       refine AllReadyH.cons (o := ⟨some 87, .load 42 (.tmp 86), 42, "ref.go:130", #[⟨4, .data⟩], none⟩) rfl (fun KK hK => ?_) AllReadyH.nil
       ·
        have k3 := (hKw.2 3 _ rfl).1
        go_simp
        refine hK.out _ _ hHeld (fun hHeld => ?_)
        clear k3
        clear hK KK
        try simp only [Act.put, La1, La2, La3]
        refine wpAnyH_ready (rs := [6]) (by kernel_rfl) (by simp) ?_
        refine AllReadyH.cons (o := ⟨some 88, .call { callee := .builtin .append, args := #[.tmp 83, .tmp 87], argTypes := #[42, 42] }, 42, "ref.go:130", #[⟨1, .data⟩, ⟨5, .data⟩], none⟩) rfl (fun KK hK => ?_) AllReadyH.nil
        ·
         refine step_appD (by rfl) _ _ (by rfl) (by rfl) (by rfl) hE1 hDL hone hBw.size hlm2 ?_
         intro a6 n6 c6 wl h6 ht6 hk6 hB
         refine hK.out _ _ (hHeld.turn ht6 (by intro e; have e2 : g1 = w.heap.size := (by injection e); omega)) (fun hHeld => ?_)
         replace hKw := hKw.turn ht6 (by intro e; have e2 : g1 = K := (by injection e); omega)
         try replace h9 := h9.turn ht6 (fun k hk e => rw_do_ne h9 hE1 k hk e)
         try replace h11 := h11.turn ht6 (by intro k hk e; have e1 : g11 = k := (by injection hk); have e2 : g1 = k := (by injection e); omega)
         try replace hg1b := Nat.lt_of_lt_of_le hg1b hB.size
         try replace hg9b := Nat.lt_of_lt_of_le hg9b hB.size
         try replace hg11b := Nat.lt_of_lt_of_le hg11b hB.size
         replace hBw := hBw.trans hB
         clear hK KK
         try simp only [Act.put, La1, La2, La3]
         refine wpAnyH_ready (rs := [12]) (by kernel_rfl) (by simp) ?_
         refine AllReadyH.cons (o := ⟨some 94, .call { callee := .builtin .append, args := #[.tmp 88, .tmp 93], argTypes := #[42, 42] }, 42, "ref.go:130", #[⟨6, .data⟩, ⟨11, .data⟩, ⟨6, .chain⟩], none⟩) rfl (fun KK hK => ?_) AllReadyH.nil
         ·
          refine step_appD (by rfl) _ _ (by rfl) (by rfl) (by rfl) h6 h11.dr (by intro e he; rw [List.mem_singleton.1 he]; rfl) hBw.size (by rw [List.nil_append, hlm]; simp; omega) ?_
          intro a12 n12 c12 wl h12 ht12 hk12 hB
          have hge6 := h6.ge
          refine hK.out _ _ (hHeld.turn ht12 (fun e => by have := hge6 _ e; omega)) (fun hHeld => ?_)
          replace hKw := hKw.turn ht12 (fun e => by have := hge6 _ e; omega)
          replace h9 := h9.turn ht12 (fun k hk e => rw_do_ne h9 h6 k hk e)
          replace hBw := hBw.trans hB
          clear hK KK
          try simp only [Act.put, La1, La2, La3]
          refine tk (i := 13) (oi := ⟨some 95, .nilCheck (.tmp 82), 0, "ref.go:130", #[⟨0, .data⟩, ⟨0, .phase⟩, ⟨1, .phase⟩, ⟨2, .phase⟩, ⟨3, .phase⟩, ⟨4, .phase⟩, ⟨5, .phase⟩, ⟨6, .phase⟩, ⟨7, .phase⟩, ⟨8, .phase⟩, ⟨9, .phase⟩, ⟨10, .phase⟩, ⟨11, .phase⟩, ⟨12, .phase⟩], none⟩) (v := .pointer (some ⟨K, 0, none⟩)) rfl (by kernel_rfl) (fun _ _ _ h => h) (Or.inl ⟨by rfl, ?_⟩) (by assumption) ?_
          ·
           intro wx hSw
           go_simp
           try with_reducible rfl
          try simp only [Act.put, La1, La2, La3]
          refine tk (i := 14) (oi := ⟨some 96, .fieldAddr 44 (.tmp 95) 3, 0, "ref.go:130", #[⟨13, .data⟩, ⟨0, .phase⟩, ⟨1, .phase⟩, ⟨2, .phase⟩, ⟨3, .phase⟩, ⟨4, .phase⟩, ⟨5, .phase⟩, ⟨6, .phase⟩, ⟨7, .phase⟩, ⟨8, .phase⟩, ⟨9, .phase⟩, ⟨10, .phase⟩, ⟨11, .phase⟩, ⟨12, .phase⟩], none⟩) (v := .pointer (some ⟨K, 3, none⟩)) rfl (by kernel_rfl) (fun _ _ _ h => h) (Or.inl ⟨by rfl, ?_⟩) (by assumption) ?_
          ·
           intro wx hSw
           go_simp
           try with_reducible rfl
          try simp only [Act.put, La1, La2, La3]
          refine wpAnyH_ready (rs := [15]) (by kernel_rfl) (by simp) ?_
          refine AllReadyH.cons (o := ⟨none, .store 42 (.tmp 96) (.tmp 94), 0, "ref.go:130", #[⟨14, .data⟩, ⟨12, .data⟩, ⟨12, .chain⟩, ⟨0, .phase⟩, ⟨1, .phase⟩, ⟨2, .phase⟩, ⟨3, .phase⟩, ⟨4, .phase⟩, ⟨5, .phase⟩, ⟨6, .phase⟩, ⟨7, .phase⟩, ⟨8, .phase⟩, ⟨9, .phase⟩, ⟨10, .phase⟩, ⟨11, .phase⟩, ⟨12, .phase⟩], none⟩) rfl (fun KK hK => ?_) AllReadyH.nil
          ·
           have k3 := (hKw.2 3 _ rfl).1
           have f3 := (hKw.2 3 _ rfl).2
           have kt := turn_set wl K 3 (.slice a12 n12 c12)
           go_simp
           refine hK.out _ _ (hHeld.turn kt (by omega)) (fun hHeld => ?_)
           clear k3 f3
           clear hK KK
           try simp only [Act.put, La1, La2, La3]
           refine wpAnyH_done (by kernel_rfl) ?_ _
           go_wp2
           go_meet
           case rel => exact ⟨rfl, wf, g9, a12, n12, c12, hbf', hKw.set 3 _, DO.turn h12 kt (fun k hk e => by have := h12.ge k hk; omega), RW.turn h9 kt (fun k hk e => by have := h9.ge k hk; omega), (Turn.of_below (S := fun k => k = K) hBw).trans kt⟩
     ·
      have k3 := (hKw.2 3 _ rfl).1
      go_simp
      refine hK.out _ _ hHeld (fun hHeld => ?_)
      clear k3
      clear hK KK
      try simp only [Act.put, La1, La2, La3]
      refine wpAnyH_ready (rs := [1, 11]) (by kernel_rfl) (by simp) ?_
      refine AllReadyH.cons (o := ⟨some 83, .buildSlice 42 0 #[], 42, "ref.go:130", #[], none⟩) rfl (fun KK hK => ?_) (AllReadyH.cons (o := ⟨some 93, .buildSlice 42 1 #[(0, .tmp 92)], 42, "ref.go:130", #[⟨10, .data⟩], none⟩) rfl (fun KK hK => ?_) AllReadyH.nil)
      ·
       refine step_b0D (by rfl) (by rfl) wf.heap.size hBw.size ?_
       intro g1 wl hg1 hg1b hE1 hB
       refine hK.out _ _ (hHeld.later hB) (fun hHeld => ?_)
       try have hne : g11 ≠ g1 := by omega
       try replace hKw := hKw.later hB
       try replace hDL := hDL.later hB
       try replace h6 := h6.later hB
       try replace h9 := h9.later hB
       try replace h11 := h11.later hB
       try replace hg9b := Nat.lt_of_lt_of_le hg9b hB.size
       try replace hg11b := Nat.lt_of_lt_of_le hg11b hB.size
       have hg1f : wf.heap.size ≤ g1 := Nat.le_trans hBw.size hg1
       replace hBw := bt hBw hB
       clear hK KK
       try simp only [Act.put, La1, La2, La3]
       refine wpAnyH_ready (rs := [6, 11]) (by kernel_rfl) (by simp) ?_
       refine AllReadyH.cons (o := ⟨some 88, .call { callee := .builtin .append, args := #[.tmp 83, .tmp 87], argTypes := #[42, 42] }, 42, "ref.go:130", #[⟨1, .data⟩, ⟨5, .data⟩], none⟩) rfl (fun KK hK => ?_) (AllReadyH.cons (o := ⟨some 93, .buildSlice 42 1 #[(0, .tmp 92)], 42, "ref.go:130", #[⟨10, .data⟩], none⟩) rfl (fun KK hK => ?_) AllReadyH.nil)
       ·
        refine step_appD (by rfl) _ _ (by rfl) (by rfl) (by rfl) hE1 hDL hone hBw.size hlm2 ?_
        intro a6 n6 c6 wl h6 ht6 hk6 hB
        refine hK.out _ _ (hHeld.turn ht6 (by intro e; have e2 : g1 = w.heap.size := (by injection e); omega)) (fun hHeld => ?_)
        replace hKw := hKw.turn ht6 (by intro e; have e2 : g1 = K := (by injection e); omega)
        try replace h9 := h9.turn ht6 (fun k hk e => rw_do_ne h9 hE1 k hk e)
        try replace h11 := h11.turn ht6 (by intro k hk e; have e1 : g11 = k := (by injection hk); have e2 : g1 = k := (by injection e); omega)
        try replace hg1b := Nat.lt_of_lt_of_le hg1b hB.size
        try replace hg9b := Nat.lt_of_lt_of_le hg9b hB.size
        try replace hg11b := Nat.lt_of_lt_of_le hg11b hB.size
        replace hBw := hBw.trans hB
        clear hK KK
        try simp only [Act.put, La1, La2, La3]
        refine wpAnyH_ready (rs := [11]) (by kernel_rfl) (by simp) ?_
        refine AllReadyH.cons (o := ⟨some 93, .buildSlice 42 1 #[(0, .tmp 92)], 42, "ref.go:130", #[⟨10, .data⟩], none⟩) rfl (fun KK hK => ?_) AllReadyH.nil
        ·
         refine step_bsD (by rfl) _ (by rfl) (now, .slice (some ⟨g9, 0, none⟩) 1 1) (by rfl) wf.heap.size hBw.size ?_
         intro g11 wl hg11 hg11b h11 hB
         refine hK.out _ _ (hHeld.later hB) (fun hHeld => ?_)
         try have hne : g11 ≠ g1 := by omega
         try replace hKw := hKw.later hB
         try replace hDL := hDL.later hB
         try replace hE1 := hE1.later hB
         try replace h6 := h6.later hB
         try replace h9 := h9.later hB
         try replace hg1b := Nat.lt_of_lt_of_le hg1b hB.size
         try replace hg9b := Nat.lt_of_lt_of_le hg9b hB.size
         replace hBw := bt hBw hB
         clear hK KK
         try simp only [Act.put, La1, La2, La3]
         refine wpAnyH_ready (rs := [12]) (by kernel_rfl) (by simp) ?_
         refine AllReadyH.cons (o := ⟨some 94, .call { callee := .builtin .append, args := #[.tmp 88, .tmp 93], argTypes := #[42, 42] }, 42, "ref.go:130", #[⟨6, .data⟩, ⟨11, .data⟩, ⟨6, .chain⟩], none⟩) rfl (fun KK hK => ?_) AllReadyH.nil
         ·
          refine step_appD (by rfl) _ _ (by rfl) (by rfl) (by rfl) h6 h11.dr (by intro e he; rw [List.mem_singleton.1 he]; rfl) hBw.size (by rw [List.nil_append, hlm]; simp; omega) ?_
          intro a12 n12 c12 wl h12 ht12 hk12 hB
          have hge6 := h6.ge
          refine hK.out _ _ (hHeld.turn ht12 (fun e => by have := hge6 _ e; omega)) (fun hHeld => ?_)
          replace hKw := hKw.turn ht12 (fun e => by have := hge6 _ e; omega)
          replace h9 := h9.turn ht12 (fun k hk e => rw_do_ne h9 h6 k hk e)
          replace hBw := hBw.trans hB
          clear hK KK
          try simp only [Act.put, La1, La2, La3]
          refine tk (i := 13) (oi := ⟨some 95, .nilCheck (.tmp 82), 0, "ref.go:130", #[⟨0, .data⟩, ⟨0, .phase⟩, ⟨1, .phase⟩, ⟨2, .phase⟩, ⟨3, .phase⟩, ⟨4, .phase⟩, ⟨5, .phase⟩, ⟨6, .phase⟩, ⟨7, .phase⟩, ⟨8, .phase⟩, ⟨9, .phase⟩, ⟨10, .phase⟩, ⟨11, .phase⟩, ⟨12, .phase⟩], none⟩) (v := .pointer (some ⟨K, 0, none⟩)) rfl (by kernel_rfl) (fun _ _ _ h => h) (Or.inl ⟨by rfl, ?_⟩) (by assumption) ?_
          ·
           intro wx hSw
           go_simp
           try with_reducible rfl
          try simp only [Act.put, La1, La2, La3]
          refine tk (i := 14) (oi := ⟨some 96, .fieldAddr 44 (.tmp 95) 3, 0, "ref.go:130", #[⟨13, .data⟩, ⟨0, .phase⟩, ⟨1, .phase⟩, ⟨2, .phase⟩, ⟨3, .phase⟩, ⟨4, .phase⟩, ⟨5, .phase⟩, ⟨6, .phase⟩, ⟨7, .phase⟩, ⟨8, .phase⟩, ⟨9, .phase⟩, ⟨10, .phase⟩, ⟨11, .phase⟩, ⟨12, .phase⟩], none⟩) (v := .pointer (some ⟨K, 3, none⟩)) rfl (by kernel_rfl) (fun _ _ _ h => h) (Or.inl ⟨by rfl, ?_⟩) (by assumption) ?_
          ·
           intro wx hSw
           go_simp
           try with_reducible rfl
          try simp only [Act.put, La1, La2, La3]
          refine wpAnyH_ready (rs := [15]) (by kernel_rfl) (by simp) ?_
          refine AllReadyH.cons (o := ⟨none, .store 42 (.tmp 96) (.tmp 94), 0, "ref.go:130", #[⟨14, .data⟩, ⟨12, .data⟩, ⟨12, .chain⟩, ⟨0, .phase⟩, ⟨1, .phase⟩, ⟨2, .phase⟩, ⟨3, .phase⟩, ⟨4, .phase⟩, ⟨5, .phase⟩, ⟨6, .phase⟩, ⟨7, .phase⟩, ⟨8, .phase⟩, ⟨9, .phase⟩, ⟨10, .phase⟩, ⟨11, .phase⟩, ⟨12, .phase⟩], none⟩) rfl (fun KK hK => ?_) AllReadyH.nil
          ·
           have k3 := (hKw.2 3 _ rfl).1
           have f3 := (hKw.2 3 _ rfl).2
           have kt := turn_set wl K 3 (.slice a12 n12 c12)
           go_simp
           refine hK.out _ _ (hHeld.turn kt (by omega)) (fun hHeld => ?_)
           clear k3 f3
           clear hK KK
           try simp only [Act.put, La1, La2, La3]
           refine wpAnyH_done (by kernel_rfl) ?_ _
           go_wp2
           go_meet
           case rel => exact ⟨rfl, wf, g9, a12, n12, c12, hbf', hKw.set 3 _, DO.turn h12 kt (fun k hk e => by have := h12.ge k hk; omega), RW.turn h9 kt (fun k hk e => by have := h9.ge k hk; omega), (Turn.of_below (S := fun k => k = K) hBw).trans kt⟩
       ·
        refine step_bsD (by rfl) _ (by rfl) (now, .slice (some ⟨g9, 0, none⟩) 1 1) (by rfl) wf.heap.size hBw.size ?_
        intro g11 wl hg11 hg11b h11 hB
        refine hK.out _ _ (hHeld.later hB) (fun hHeld => ?_)
        try have hne : g11 ≠ g1 := by omega
        try replace hKw := hKw.later hB
        try replace hDL := hDL.later hB
        try replace hE1 := hE1.later hB
        try replace h6 := h6.later hB
        try replace h9 := h9.later hB
        try replace hg1b := Nat.lt_of_lt_of_le hg1b hB.size
        try replace hg9b := Nat.lt_of_lt_of_le hg9b hB.size
        replace hBw := bt hBw hB
        clear hK KK
        try simp only [Act.put, La1, La2, La3]
        refine wpAnyH_ready (rs := [6]) (by kernel_rfl) (by simp) ?_
        refine AllReadyH.cons (o := ⟨some 88, .call { callee := .builtin .append, args := #[.tmp 83, .tmp 87], argTypes := #[42, 42] }, 42, "ref.go:130", #[⟨1, .data⟩, ⟨5, .data⟩], none⟩) rfl (fun KK hK => ?_) AllReadyH.nil
        ·
         refine step_appD (by rfl) _ _ (by rfl) (by rfl) (by rfl) hE1 hDL hone hBw.size hlm2 ?_
         intro a6 n6 c6 wl h6 ht6 hk6 hB
         refine hK.out _ _ (hHeld.turn ht6 (by intro e; have e2 : g1 = w.heap.size := (by injection e); omega)) (fun hHeld => ?_)
         replace hKw := hKw.turn ht6 (by intro e; have e2 : g1 = K := (by injection e); omega)
         try replace h9 := h9.turn ht6 (fun k hk e => rw_do_ne h9 hE1 k hk e)
         try replace h11 := h11.turn ht6 (by intro k hk e; have e1 : g11 = k := (by injection hk); have e2 : g1 = k := (by injection e); omega)
         try replace hg1b := Nat.lt_of_lt_of_le hg1b hB.size
         try replace hg9b := Nat.lt_of_lt_of_le hg9b hB.size
         try replace hg11b := Nat.lt_of_lt_of_le hg11b hB.size
         replace hBw := hBw.trans hB
         clear hK KK
         try simp only [Act.put, La1, La2, La3]
         refine wpAnyH_ready (rs := [12]) (by kernel_rfl) (by simp) ?_
         refine AllReadyH.cons (o := ⟨some 94, .call { callee := .builtin .append, args := #[.tmp 88, .tmp 93], argTypes := #[42, 42] }, 42, "ref.go:130", #[⟨6, .data⟩, ⟨11, .data⟩, ⟨6, .chain⟩], none⟩) rfl (fun KK hK => ?_) AllReadyH.nil
         ·
          refine step_appD (by rfl) _ _ (by rfl) (by rfl) (by rfl) h6 h11.dr (by intro e he; rw [List.mem_singleton.1 he]; rfl) hBw.size (by rw [List.nil_append, hlm]; simp; omega) ?_
          intro a12 n12 c12 wl h12 ht12 hk12 hB
          have hge6 := h6.ge
          refine hK.out _ _ (hHeld.turn ht12 (fun e => by have := hge6 _ e; omega)) (fun hHeld => ?_)
          replace hKw := hKw.turn ht12 (fun e => by have := hge6 _ e; omega)
          replace h9 := h9.turn ht12 (fun k hk e => rw_do_ne h9 h6 k hk e)
          replace hBw := hBw.trans hB
          clear hK KK
          try simp only [Act.put, La1, La2, La3]
          refine tk (i := 13) (oi := ⟨some 95, .nilCheck (.tmp 82), 0, "ref.go:130", #[⟨0, .data⟩, ⟨0, .phase⟩, ⟨1, .phase⟩, ⟨2, .phase⟩, ⟨3, .phase⟩, ⟨4, .phase⟩, ⟨5, .phase⟩, ⟨6, .phase⟩, ⟨7, .phase⟩, ⟨8, .phase⟩, ⟨9, .phase⟩, ⟨10, .phase⟩, ⟨11, .phase⟩, ⟨12, .phase⟩], none⟩) (v := .pointer (some ⟨K, 0, none⟩)) rfl (by kernel_rfl) (fun _ _ _ h => h) (Or.inl ⟨by rfl, ?_⟩) (by assumption) ?_
          ·
           intro wx hSw
           go_simp
           try with_reducible rfl
          try simp only [Act.put, La1, La2, La3]
          refine tk (i := 14) (oi := ⟨some 96, .fieldAddr 44 (.tmp 95) 3, 0, "ref.go:130", #[⟨13, .data⟩, ⟨0, .phase⟩, ⟨1, .phase⟩, ⟨2, .phase⟩, ⟨3, .phase⟩, ⟨4, .phase⟩, ⟨5, .phase⟩, ⟨6, .phase⟩, ⟨7, .phase⟩, ⟨8, .phase⟩, ⟨9, .phase⟩, ⟨10, .phase⟩, ⟨11, .phase⟩, ⟨12, .phase⟩], none⟩) (v := .pointer (some ⟨K, 3, none⟩)) rfl (by kernel_rfl) (fun _ _ _ h => h) (Or.inl ⟨by rfl, ?_⟩) (by assumption) ?_
          ·
           intro wx hSw
           go_simp
           try with_reducible rfl
          try simp only [Act.put, La1, La2, La3]
          refine wpAnyH_ready (rs := [15]) (by kernel_rfl) (by simp) ?_
          refine AllReadyH.cons (o := ⟨none, .store 42 (.tmp 96) (.tmp 94), 0, "ref.go:130", #[⟨14, .data⟩, ⟨12, .data⟩, ⟨12, .chain⟩, ⟨0, .phase⟩, ⟨1, .phase⟩, ⟨2, .phase⟩, ⟨3, .phase⟩, ⟨4, .phase⟩, ⟨5, .phase⟩, ⟨6, .phase⟩, ⟨7, .phase⟩, ⟨8, .phase⟩, ⟨9, .phase⟩, ⟨10, .phase⟩, ⟨11, .phase⟩, ⟨12, .phase⟩], none⟩) rfl (fun KK hK => ?_) AllReadyH.nil
          ·
           have k3 := (hKw.2 3 _ rfl).1
           have f3 := (hKw.2 3 _ rfl).2
           have kt := turn_set wl K 3 (.slice a12 n12 c12)
           go_simp
           refine hK.out _ _ (hHeld.turn kt (by omega)) (fun hHeld => ?_)
           clear k3 f3
           clear hK KK
           try simp only [Act.put, La1, La2, La3]
           refine wpAnyH_done (by kernel_rfl) ?_ _
           go_wp2
           go_meet
           case rel => exact ⟨rfl, wf, g9, a12, n12, c12, hbf', hKw.set 3 _, DO.turn h12 kt (fun k hk e => by have := h12.ge k hk; omega), RW.turn h9 kt (fun k hk e => by have := h9.ge k hk; omega), (Turn.of_below (S := fun k => k = K) hBw).trans kt⟩
      ·
       refine step_bsD (by rfl) _ (by rfl) (now, .slice (some ⟨g9, 0, none⟩) 1 1) (by rfl) wf.heap.size hBw.size ?_
       intro g11 wl hg11 hg11b h11 hB
       refine hK.out _ _ (hHeld.later hB) (fun hHeld => ?_)
       try have hne : g11 ≠ g1 := by omega
       try replace hKw := hKw.later hB
       try replace hDL := hDL.later hB
       try replace hE1 := hE1.later hB
       try replace h6 := h6.later hB
       try replace h9 := h9.later hB
       try replace hg1b := Nat.lt_of_lt_of_le hg1b hB.size
       try replace hg9b := Nat.lt_of_lt_of_le hg9b hB.size
       replace hBw := bt hBw hB
       clear hK KK
       try simp only [Act.put, La1, La2, La3]
       refine wpAnyH_ready (rs := [1]) (by kernel_rfl) (by simp) ?_
       refine AllReadyH.cons (o := ⟨some 83, .buildSlice 42 0 #[], 42, "ref.go:130", #[], none⟩) rfl (fun KK hK => ?_) AllReadyH.nil
       ·
        refine step_b0D (by rfl) (by rfl) wf.heap.size hBw.size ?_
        intro g1 wl hg1 hg1b hE1 hB
        refine hK.out _ _ (hHeld.later hB) (fun hHeld => ?_)
        try have hne : g11 ≠ g1 := by omega
        try replace hKw := hKw.later hB
        try replace hDL := hDL.later hB
        try replace h6 := h6.later hB
        try replace h9 := h9.later hB
        try replace h11 := h11.later hB
        try replace hg9b := Nat.lt_of_lt_of_le hg9b hB.size
        try replace hg11b := Nat.lt_of_lt_of_le hg11b hB.size
        have hg1f : wf.heap.size ≤ g1 := Nat.le_trans hBw.size hg1
        replace hBw := bt hBw hB
        clear hK KK
        try simp only [Act.put, La1, La2, La3]
        refine wpAnyH_ready (rs := [6]) (by kernel_rfl) (by simp) ?_
        refine AllReadyH.cons (o := ⟨some 88, .call { callee := .builtin .append, args := #[.tmp 83, .tmp 87], argTypes := #[42, 42] }, 42, "ref.go:130", #[⟨1, .data⟩, ⟨5, .data⟩], none⟩) rfl (fun KK hK => ?_) AllReadyH.nil
        ·
         refine step_appD (by rfl) _ _ (by rfl) (by rfl) (by rfl) hE1 hDL hone hBw.size hlm2 ?_
         intro a6 n6 c6 wl h6 ht6 hk6 hB
         refine hK.out _ _ (hHeld.turn ht6 (by intro e; have e2 : g1 = w.heap.size := (by injection e); omega)) (fun hHeld => ?_)
         replace hKw := hKw.turn ht6 (by intro e; have e2 : g1 = K := (by injection e); omega)
         try replace h9 := h9.turn ht6 (fun k hk e => rw_do_ne h9 hE1 k hk e)
         try replace h11 := h11.turn ht6 (by intro k hk e; have e1 : g11 = k := (by injection hk); have e2 : g1 = k := (by injection e); omega)
         try replace hg1b := Nat.lt_of_lt_of_le hg1b hB.size
         try replace hg9b := Nat.lt_of_lt_of_le hg9b hB.size
         try replace hg11b := Nat.lt_of_lt_of_le hg11b hB.size
         replace hBw := hBw.trans hB
         clear hK KK
         try simp only [Act.put, La1, La2, La3]
         refine wpAnyH_ready (rs := [12]) (by kernel_rfl) (by simp) ?_
         refine AllReadyH.cons (o := ⟨some 94, .call { callee := .builtin .append, args := #[.tmp 88, .tmp 93], argTypes := #[42, 42] }, 42, "ref.go:130", #[⟨6, .data⟩, ⟨11, .data⟩, ⟨6, .chain⟩], none⟩) rfl (fun KK hK => ?_) AllReadyH.nil
         ·
          refine step_appD (by rfl) _ _ (by rfl) (by rfl) (by rfl) h6 h11.dr (by intro e he; rw [List.mem_singleton.1 he]; rfl) hBw.size (by rw [List.nil_append, hlm]; simp; omega) ?_
          intro a12 n12 c12 wl h12 ht12 hk12 hB
          have hge6 := h6.ge
          refine hK.out _ _ (hHeld.turn ht12 (fun e => by have := hge6 _ e; omega)) (fun hHeld => ?_)
          replace hKw := hKw.turn ht12 (fun e => by have := hge6 _ e; omega)
          replace h9 := h9.turn ht12 (fun k hk e => rw_do_ne h9 h6 k hk e)
          replace hBw := hBw.trans hB
          clear hK KK
          try simp only [Act.put, La1, La2, La3]
          refine tk (i := 13) (oi := ⟨some 95, .nilCheck (.tmp 82), 0, "ref.go:130", #[⟨0, .data⟩, ⟨0, .phase⟩, ⟨1, .phase⟩, ⟨2, .phase⟩, ⟨3, .phase⟩, ⟨4, .phase⟩, ⟨5, .phase⟩, ⟨6, .phase⟩, ⟨7, .phase⟩, ⟨8, .phase⟩, ⟨9, .phase⟩, ⟨10, .phase⟩, ⟨11, .phase⟩, ⟨12, .phase⟩], none⟩) (v := .pointer (some ⟨K, 0, none⟩)) rfl (by kernel_rfl) (fun _ _ _ h => h) (Or.inl ⟨by rfl, ?_⟩) (by assumption) ?_
          ·
           intro wx hSw
           go_simp
           try with_reducible rfl
          try simp only [Act.put, La1, La2, La3]
          refine tk (i := 14) (oi := ⟨some 96, .fieldAddr 44 (.tmp 95) 3, 0, "ref.go:130", #[⟨13, .data⟩, ⟨0, .phase⟩, ⟨1, .phase⟩, ⟨2, .phase⟩, ⟨3, .phase⟩, ⟨4, .phase⟩, ⟨5, .phase⟩, ⟨6, .phase⟩, ⟨7, .phase⟩, ⟨8, .phase⟩, ⟨9, .phase⟩, ⟨10, .phase⟩, ⟨11, .phase⟩, ⟨12, .phase⟩], none⟩) (v := .pointer (some ⟨K, 3, none⟩)) rfl (by kernel_rfl) (fun _ _ _ h => h) (Or.inl ⟨by rfl, ?_⟩) (by assumption) ?_
          ·
           intro wx hSw
           go_simp
           try with_reducible rfl
          try simp only [Act.put, La1, La2, La3]
          refine wpAnyH_ready (rs := [15]) (by kernel_rfl) (by simp) ?_
          refine AllReadyH.cons (o := ⟨none, .store 42 (.tmp 96) (.tmp 94), 0, "ref.go:130", #[⟨14, .data⟩, ⟨12, .data⟩, ⟨12, .chain⟩, ⟨0, .phase⟩, ⟨1, .phase⟩, ⟨2, .phase⟩, ⟨3, .phase⟩, ⟨4, .phase⟩, ⟨5, .phase⟩, ⟨6, .phase⟩, ⟨7, .phase⟩, ⟨8, .phase⟩, ⟨9, .phase⟩, ⟨10, .phase⟩, ⟨11, .phase⟩, ⟨12, .phase⟩], none⟩) rfl (fun KK hK => ?_) AllReadyH.nil
          ·
           have k3 := (hKw.2 3 _ rfl).1
           have f3 := (hKw.2 3 _ rfl).2
           have kt := turn_set wl K 3 (.slice a12 n12 c12)
           go_simp
           refine hK.out _ _ (hHeld.turn kt (by omega)) (fun hHeld => ?_)
           clear k3 f3
           clear hK KK
           try simp only [Act.put, La1, La2, La3]
           refine wpAnyH_done (by kernel_rfl) ?_ _
           go_wp2
           go_meet
           case rel => exact ⟨rfl, wf, g9, a12, n12, c12, hbf', hKw.set 3 _, DO.turn h12 kt (fun k hk e => by have := h12.ge k hk; omega), RW.turn h9 kt (fun k hk e => by have := h9.ge k hk; omega), (Turn.of_below (S := fun k => k = K) hBw).trans kt⟩
     ·
      refine step_bsD (by rfl) _ (by rfl) (now, .slice (some ⟨g9, 0, none⟩) 1 1) (by rfl) wf.heap.size hBw.size ?_
      intro g11 wl hg11 hg11b h11 hB
      refine hK.out _ _ (hHeld.later hB) (fun hHeld => ?_)
      try have hne : g11 ≠ g1 := by omega
      try replace hKw := hKw.later hB
      try replace hDL := hDL.later hB
      try replace hE1 := hE1.later hB
      try replace h6 := h6.later hB
      try replace h9 := h9.later hB
      try replace hg1b := Nat.lt_of_lt_of_le hg1b hB.size
      try replace hg9b := Nat.lt_of_lt_of_le hg9b hB.size
      replace hBw := bt hBw hB
      clear hK KK
      try simp only [Act.put, La1, La2, La3]
      refine wpAnyH_ready (rs := [1, 5]) (by kernel_rfl) (by simp) ?_
      refine AllReadyH.cons (o := ⟨some 83, .buildSlice 42 0 #[], 42, "ref.go:130", #[], none⟩) rfl (fun KK hK => ?_) (AllReadyH.cons (o := ⟨some 87, .load 42 (.tmp 86), 42, "ref.go:130", #[⟨4, .data⟩], none⟩) rfl (fun KK hK => ?_) AllReadyH.nil)
      ·
       refine step_b0D (by rfl) (by rfl) wf.heap.size hBw.size ?_
       intro g1 wl hg1 hg1b hE1 hB
       refine hK.out _ _ (hHeld.later hB) (fun hHeld => ?_)
       try have hne : g11 ≠ g1 := by omega
       try replace hKw := hKw.later hB
       try replace hDL := hDL.later hB
       try replace h6 := h6.later hB
       try replace h9 := h9.later hB
       try replace h11 := h11.later hB
       try replace hg9b := Nat.lt_of_lt_of_le hg9b hB.size
       try replace hg11b := Nat.lt_of_lt_of_le hg11b hB.size
       have hg1f : wf.heap.size ≤ g1 := Nat.le_trans hBw.size hg1
       replace hBw := bt hBw hB
       clear hK KK
       try simp only [Act.put, La1, La2, La3]
       refine wpAnyH_ready (rs := [5]) (by kernel_rfl) (by simp) ?_
       refine AllReadyH.cons (o := ⟨some 87, .load 42 (.tmp 86), 42, "ref.go:130", #[⟨4, .data⟩], none⟩) rfl (fun KK hK => ?_) AllReadyH.nil
       ·
        have k3 := (hKw.2 3 _ rfl).1
        go_simp
        refine hK.out _ _ hHeld (fun hHeld => ?_)
        clear k3
        clear hK KK
        try simp only [Act.put, La1, La2, La3]
        refine wpAnyH_ready (rs := [6]) (by kernel_rfl) (by simp) ?_
        refine AllReadyH.cons (o := ⟨some 88, .call { callee := .builtin .append, args := #[.tmp 83, .tmp 87], argTypes := #[42, 42] }, 42, "ref.go:130", #[⟨1, .data⟩, ⟨5, .data⟩], none⟩) rfl (fun KK hK => ?_) AllReadyH.nil
        ·
         refine step_appD (by rfl) _ _ (by rfl) (by rfl) (by rfl) hE1 hDL hone hBw.size hlm2 ?_
         intro a6 n6 c6 wl h6 ht6 hk6 hB
         refine hK.out _ _ (hHeld.turn ht6 (by intro e; have e2 : g1 = w.heap.size := (by injection e); omega)) (fun hHeld => ?_)
         replace hKw := hKw.turn ht6 (by intro e; have e2 : g1 = K := (by injection e); omega)
         try replace h9 := h9.turn ht6 (fun k hk e => rw_do_ne h9 hE1 k hk e)
         try replace h11 := h11.turn ht6 (by intro k hk e; have e1 : g11 = k := (by injection hk); have e2 : g1 = k := (by injection e); omega)
         try replace hg1b := Nat.lt_of_lt_of_le hg1b hB.size
         try replace hg9b := Nat.lt_of_lt_of_le hg9b hB.size
         try replace hg11b := Nat.lt_of_lt_of_le hg11b hB.size
         replace hBw := hBw.trans hB
         clear hK KK
         try simp only [Act.put, La1, La2, La3]
         refine wpAnyH_ready (rs := [12]) (by kernel_rfl) (by simp) ?_
         refine AllReadyH.cons (o := ⟨some 94, .call { callee := .builtin .append, args := #[.tmp 88, .tmp 93], argTypes := #[42, 42] }, 42, "ref.go:130", #[⟨6, .data⟩, ⟨11, .data⟩, ⟨6, .chain⟩], none⟩) rfl (fun KK hK => ?_) AllReadyH.nil
         ·
          refine step_appD (by rfl) _ _ (by rfl) (by rfl) (by rfl) h6 h11.dr (by intro e he; rw [List.mem_singleton.1 he]; rfl) hBw.size (by rw [List.nil_append, hlm]; simp; omega) ?_
          intro a12 n12 c12 wl h12 ht12 hk12 hB
          have hge6 := h6.ge
          refine hK.out _ _ (hHeld.turn ht12 (fun e => by have := hge6 _ e; omega)) (fun hHeld => ?_)
          replace hKw := hKw.turn ht12 (fun e => by have := hge6 _ e; omega)
          replace h9 := h9.turn ht12 (fun k hk e => rw_do_ne h9 h6 k hk e)
          replace hBw := hBw.trans hB
          clear hK KK
          try simp only [Act.put, La1, La2, La3]
          refine tk (i := 13) (oi := ⟨some 95, .nilCheck (.tmp 82), 0, "ref.go:130", #[⟨0, .data⟩, ⟨0, .phase⟩, ⟨1, .phase⟩, ⟨2, .phase⟩, ⟨3, .phase⟩, ⟨4, .phase⟩, ⟨5, .phase⟩, ⟨6, .phase⟩, ⟨7, .phase⟩, ⟨8, .phase⟩, ⟨9, .phase⟩, ⟨10, .phase⟩, ⟨11, .phase⟩, ⟨12, .phase⟩], none⟩) (v := .pointer (some ⟨K, 0, none⟩)) rfl (by kernel_rfl) (fun _ _ _ h => h) (Or.inl ⟨by rfl, ?_⟩) (by assumption) ?_
          ·
           intro wx hSw
           go_simp
           try with_reducible rfl
          try simp only [Act.put, La1, La2, La3]
          refine tk (i := 14) (oi := ⟨some 96, .fieldAddr 44 (.tmp 95) 3, 0, "ref.go:130", #[⟨13, .data⟩, ⟨0, .phase⟩, ⟨1, .phase⟩, ⟨2, .phase⟩, ⟨3, .phase⟩, ⟨4, .phase⟩, ⟨5, .phase⟩, ⟨6, .phase⟩, ⟨7, .phase⟩, ⟨8, .phase⟩, ⟨9, .phase⟩, ⟨10, .phase⟩, ⟨11, .phase⟩, ⟨12, .phase⟩], none⟩) (v := .pointer (some ⟨K, 3, none⟩)) rfl (by kernel_rfl) (fun _ _ _ h => h) (Or.inl ⟨by rfl, ?_⟩) (by assumption) ?_
          ·
           intro wx hSw
           go_simp
           try with_reducible rfl
          try simp only [Act.put, La1, La2, La3]
          refine wpAnyH_ready (rs := [15]) (by kernel_rfl) (by simp) ?_
          refine AllReadyH.cons (o := ⟨none, .store 42 (.tmp 96) (.tmp 94), 0, "ref.go:130", #[⟨14, .data⟩, ⟨12, .data⟩, ⟨12, .chain⟩, ⟨0, .phase⟩, ⟨1, .phase⟩, ⟨2, .phase⟩, ⟨3, .phase⟩, ⟨4, .phase⟩, ⟨5, .phase⟩, ⟨6, .phase⟩, ⟨7, .phase⟩, ⟨8, .phase⟩, ⟨9, .phase⟩, ⟨10, .phase⟩, ⟨11, .phase⟩, ⟨12, .phase⟩], none⟩) rfl (fun KK hK => ?_) AllReadyH.nil
          ·
           have k3 := (hKw.2 3 _ rfl).1
           have f3 := (hKw.2 3 _ rfl).2
           have kt := turn_set wl K 3 (.slice a12 n12 c12)
           go_simp
           refine hK.out _ _ (hHeld.turn kt (by omega)) (fun hHeld => ?_)
           clear k3 f3
           clear hK KK
           try simp only [Act.put, La1, La2, La3]
           refine wpAnyH_done (by kernel_rfl) ?_ _
           go_wp2
           go_meet
           case rel => exact ⟨rfl, wf, g9, a12, n12, c12, hbf', hKw.set 3 _, DO.turn h12 kt (fun k hk e => by have := h12.ge k hk; omega), RW.turn h9 kt (fun k hk e => by have := h9.ge k hk; omega), (Turn.of_below (S := fun k => k = K) hBw).trans kt⟩
      ·
       have k3 := (hKw.2 3 _ rfl).1
       go_simp
       refine hK.out _ _ hHeld (fun hHeld => ?_)
       clear k3
       clear hK KK
       try simp only [Act.put, La1, La2, La3]
       refine wpAnyH_ready (rs := [1]) (by kernel_rfl) (by simp) ?_
       refine AllReadyH.cons (o := ⟨some 83, .buildSlice 42 0 #[], 42, "ref.go:130", #[], none⟩) rfl (fun KK hK => ?_) AllReadyH.nil
       ·
        refine step_b0D (by rfl) (by rfl) wf.heap.size hBw.size ?_
        intro g1 wl hg1 hg1b hE1 hB
        refine hK.out _ _ (hHeld.later hB) (fun hHeld => ?_)
        try have hne : g11 ≠ g1 := by omega
        try replace hKw := hKw.later hB
        try replace hDL := hDL.later hB
        try replace h6 := h6.later hB
        try replace h9 := h9.later hB
        try replace h11 := h11.later hB
        try replace hg9b := Nat.lt_of_lt_of_le hg9b hB.size
        try replace hg11b := Nat.lt_of_lt_of_le hg11b hB.size
        have hg1f : wf.heap.size ≤ g1 := Nat.le_trans hBw.size hg1
        replace hBw := bt hBw hB
        clear hK KK
        try simp only [Act.put, La1, La2, La3]
        refine wpAnyH_ready (rs := [6]) (by kernel_rfl) (by simp) ?_
        refine AllReadyH.cons (o := ⟨some 88, .call { callee := .builtin .append, args := #[.tmp 83, .tmp 87], argTypes := #[42, 42] }, 42, "ref.go:130", #[⟨1, .data⟩, ⟨5, .data⟩], none⟩) rfl (fun KK hK => ?_) AllReadyH.nil
        ·
         refine step_appD (by rfl) _ _ (by rfl) (by rfl) (by rfl) hE1 hDL hone hBw.size hlm2 ?_
         intro a6 n6 c6 wl h6 ht6 hk6 hB
         refine hK.out _ _ (hHeld.turn ht6 (by intro e; have e2 : g1 = w.heap.size := (by injection e); omega)) (fun hHeld => ?_)
         replace hKw := hKw.turn ht6 (by intro e; have e2 : g1 = K := (by injection e); omega)
         try replace h9 := h9.turn ht6 (fun k hk e => rw_do_ne h9 hE1 k hk e)
         try replace h11 := h11.turn ht6 (by intro k hk e; have e1 : g11 = k := (by injection hk); have e2 : g1 = k := (by injection e); omega)
         try replace hg1b := Nat.lt_of_lt_of_le hg1b hB.size
         try replace hg9b := Nat.lt_of_lt_of_le hg9b hB.size
         try replace hg11b := Nat.lt_of_lt_of_le hg11b hB.size
         replace hBw := hBw.trans hB
         clear hK KK
         try simp only [Act.put, La1, La2, La3]
         refine wpAnyH_ready (rs := [12]) (by kernel_rfl) (by simp) ?_
         refine AllReadyH.cons (o := ⟨some 94, .call { callee := .builtin .append, args := #[.tmp 88, .tmp 93], argTypes := #[42, 42] }, 42, "ref.go:130", #[⟨6, .data⟩, ⟨11, .data⟩, ⟨6, .chain⟩], none⟩) rfl (fun KK hK => ?_) AllReadyH.nil
         ·
          refine step_appD (by rfl) _ _ (by rfl) (by rfl) (by rfl) h6 h11.dr (by intro e he; rw [List.mem_singleton.1 he]; rfl) hBw.size (by rw [List.nil_append, hlm]; simp; omega) ?_
          intro a12 n12 c12 wl h12 ht12 hk12 hB
          have hge6 := h6.ge
          refine hK.out _ _ (hHeld.turn ht12 (fun e => by have := hge6 _ e; omega)) (fun hHeld => ?_)
          replace hKw := hKw.turn ht12 (fun e => by have := hge6 _ e; omega)
          replace h9 := h9.turn ht12 (fun k hk e => rw_do_ne h9 h6 k hk e)
          replace hBw := hBw.trans hB
          clear hK KK
          try simp only [Act.put, La1, La2, La3]
          refine tk (i := 13) (oi := ⟨some 95, .nilCheck (.tmp 82), 0, "ref.go:130", #[⟨0, .data⟩, ⟨0, .phase⟩, ⟨1, .phase⟩, ⟨2, .phase⟩, ⟨3, .phase⟩, ⟨4, .phase⟩, ⟨5, .phase⟩, ⟨6, .phase⟩, ⟨7, .phase⟩, ⟨8, .phase⟩, ⟨9, .phase⟩, ⟨10, .phase⟩, ⟨11, .phase⟩, ⟨12, .phase⟩], none⟩) (v := .pointer (some ⟨K, 0, none⟩)) rfl (by kernel_rfl) (fun _ _ _ h => h) (Or.inl ⟨by rfl, ?_⟩) (by assumption) ?_
          ·
           intro wx hSw
           go_simp
           try with_reducible rfl
          try simp only [Act.put, La1, La2, La3]
          refine tk (i := 14) (oi := ⟨some 96, .fieldAddr 44 (.tmp 95) 3, 0, "ref.go:130", #[⟨13, .data⟩, ⟨0, .phase⟩, ⟨1, .phase⟩, ⟨2, .phase⟩, ⟨3, .phase⟩, ⟨4, .phase⟩, ⟨5, .phase⟩, ⟨6, .phase⟩, ⟨7, .phase⟩, ⟨8, .phase⟩, ⟨9, .phase⟩, ⟨10, .phase⟩, ⟨11, .phase⟩, ⟨12, .phase⟩], none⟩) (v := .pointer (some ⟨K, 3, none⟩)) rfl (by kernel_rfl) (fun _ _ _ h => h) (Or.inl ⟨by rfl, ?_⟩) (by assumption) ?_
          ·
           intro wx hSw
           go_simp
           try with_reducible rfl
          try simp only [Act.put, La1, La2, La3]
          refine wpAnyH_ready (rs := [15]) (by kernel_rfl) (by simp) ?_
          refine AllReadyH.cons (o := ⟨none, .store 42 (.tmp 96) (.tmp 94), 0, "ref.go:130", #[⟨14, .data⟩, ⟨12, .data⟩, ⟨12, .chain⟩, ⟨0, .phase⟩, ⟨1, .phase⟩, ⟨2, .phase⟩, ⟨3, .phase⟩, ⟨4, .phase⟩, ⟨5, .phase⟩, ⟨6, .phase⟩, ⟨7, .phase⟩, ⟨8, .phase⟩, ⟨9, .phase⟩, ⟨10, .phase⟩, ⟨11, .phase⟩, ⟨12, .phase⟩], none⟩) rfl (fun KK hK => ?_) AllReadyH.nil
          ·
           have k3 := (hKw.2 3 _ rfl).1
           have f3 := (hKw.2 3 _ rfl).2
           have kt := turn_set wl K 3 (.slice a12 n12 c12)
           go_simp
           refine hK.out _ _ (hHeld.turn kt (by omega)) (fun hHeld => ?_)
           clear k3 f3
           clear hK KK
           try simp only [Act.put, La1, La2, La3]
           refine wpAnyH_done (by kernel_rfl) ?_ _
           go_wp2
           go_meet
           case rel => exact ⟨rfl, wf, g9, a12, n12, c12, hbf', hKw.set 3 _, DO.turn h12 kt (fun k hk e => by have := h12.ge k hk; omega), RW.turn h9 kt (fun k hk e => by have := h9.ge k hk; omega), (Turn.of_below (S := fun k => k = K) hBw).trans kt⟩
   case rest =>
    obtain ⟨rfl, wf, g9, a12, n12, c12, hbf, hK8, hD8, hRT, ht8⟩ := hcut
    obtain ⟨w8, hw8⟩ : ∃ q, q = wc := ⟨wc, rfl⟩
    subst hw8
    clear c0 c3
    rw [List.nil_append] at hD8
    have hZf := hZr.later hbf
    have hZ8 := hZf.turn ht8 (by omega)
    have hsf : w.heap.size + 1 < wf.heap.size := hZf.1
    have hbff := bt hb hbf
    have HT8 : Hid (Turn (fun k => k = K) w w8) := (HT3.out.later hbff).trans ht8
    have HO8 : Hid (∀ x ∈ L, RW w8 base x.v x.ps) := fun y hy => ((HR3.out y hy).later hbff).turn ht8 (fun j hj e => by have := (HR3.out y hy).ge j hj; omega)
    have hs8 := ht8.size
    have hmp : L.map DP.e ++ [(now, .slice (some ⟨g9, 0, none⟩) 1 1)] = (L ++ [(⟨now, .slice (some ⟨g9, 0, none⟩) 1 1, [p]⟩ : DP)]).map DP.e := by rw [List.map_append]; rfl
    rw [hmp] at hD8
    clear hmp
    obtain ⟨g6, c6, hv6, hc6, hg6, hg6b, -⟩ := hD8.there (by simp)
    injection hv6 with e1 e2 e3
    subst e1 e2 e3
    have hX : DX w8 K base ro pa now (.slice (some ⟨g6, 0, none⟩) ((L ++ [(⟨now, .slice (some ⟨g9, 0, none⟩) 1 1, [p]⟩ : DP)]).map DP.e).length c12) (L ++ [(⟨now, .slice (some ⟨g9, 0, none⟩) 1 1, [p]⟩ : DP)]) := by
     refine ⟨hK8, hD8.dr.low (by omega), fun y hy => ?_, hkb, by omega⟩
     rcases List.mem_append.1 hy with h | h
     · exact HO8.out y h
     · rw [List.mem_singleton.1 h]; exact hRT.low (by omega)
    have hnl : ((L ++ [(⟨now, .slice (some ⟨g9, 0, none⟩) 1 1, [p]⟩ : DP)]).map DP.e).length = L.length + 1 := by simp
    obtain ⟨nl, hnl2⟩ : ∃ n, n = ((L ++ [(⟨now, .slice (some ⟨g9, 0, none⟩) 1 1, [p]⟩ : DP)]).map DP.e).length := ⟨_, rfl⟩
    rw [← hnl2] at hX hnl
    have hknl : (k : Int) < (nl : Int) := by have := HKL.out; omega
    have hk03 : (0 : Int) ≤ (k : Int) := by omega
    have hkn : k < nl := by have := HKL.out; omega
    clear hnl hnl2 hD8 hK8 hZf hZr ht8 hPr hKr
    have HX8 : Hid (DX w8 K base ro pa now (.slice (some ⟨g6, 0, none⟩) nl c12) (L ++ [(⟨now, .slice (some ⟨g9, 0, none⟩) 1 1, [p]⟩ : DP)])) := hX
    clear hX
    have HB8 : Hid (∀ j, (Value.slice (some ⟨g6, 0, none⟩) nl c12).ownBlock = some j → w.heap.size + 2 ≤ j) := fun j hj => by injection hj with hj; subst hj; show w.heap.size + 2 ≤ g6; omega
    have HRT : Hid (RW w8 wf.heap.size (.slice (some ⟨g9, 0, none⟩) 1 1) [p]) := hRT
    have HN8 : Hid (∀ y ∈ L ++ [(⟨now, .slice (some ⟨g9, 0, none⟩) 1 1, [p]⟩ : DP)], y ∈ L ∨ ∀ j, y.v.ownBlock = some j → w.heap.size + 2 ≤ j) := fun y hy => by
     rcases List.mem_append.1 hy with h | h
     · exact Or.inl h
     · exact Or.inr (fun j hj => by rw [List.mem_singleton.1 h] at hj; have := HRT.out.ge j hj; omega)
    have HKN : Hid (((L ++ [(⟨now, .slice (some ⟨g9, 0, none⟩) 1 1, [p]⟩ : DP)]).map DP.e)[k]? = some (now, .slice (some ⟨g9, 0, none⟩) 1 1)) := by
     show _ = _
     rw [HKL.out, List.getElem?_map, List.getElem?_append_right (Nat.le_refl _), Nat.sub_self]
     rfl
    have HOL : Hid (∀ x ∈ L, ∀ j, x.v.ownBlock = some j → j < w.heap.size) := fun y hy j hj => (HOK.out.2 y hy).lt j hj
    have hkw : K < w.heap.size := by omega
    have hlenT : ([p] : List Pk).length ≤ 1000 := by simp
    have HFT2 : Hid (∀ q ∈ [p], q.Fine) := fun q hq => by rw [List.mem_singleton.1 hq]; exact hp
    have hlen8 : (L ++ [(⟨now, .slice (some ⟨g9, 0, none⟩) 1 1, [p]⟩ : DP)]).length ≤ 1000 := by simp; omega
    have hk8 : k < (L ++ [(⟨now, .slice (some ⟨g9, 0, none⟩) 1 1, [p]⟩ : DP)]).length := by have := HKL.out; simp; omega
    clear hRT
    have k3 := (HX8.out.box.2 3 _ rfl).1
    have e1 := (HX8.out.list.elem HKN.out).2
    go_wp2_with fail
    refine (joined_any ([p]) _ _ w8 HRT.out hlenT HFT2.out).mono ?_
    rintro e w9 ⟨d, rfl, hch, hgo, l9⟩
    have HCH : Hid (Ch ([p]) d ∧ ∀ q ∈ [p], goesOn d.size q = false) := ⟨hch, hgo⟩
    clear hch hgo
    replace k3 := later l9 k3
    replace e1 := later l9 e1
    have hRT9 := HRT.out.later l9
    have hF := first_any ([p]) _ _ w9 hRT9 hlenT
    have hZ9 := hZ8.later l9
    have hs9 := l9.size
    obtain ⟨dn, hdn⟩ : ∃ b, b = decide ((d.size : Int) = lastE ([p]) (-1)) := ⟨_, rfl⟩
    rw [← hdn]
    have HDX : Hid (dn = decide ((d.size : Int) = lastE ([p]) (-1))) := hdn
    clear hdn hRT9
    cases hfl : firstL ([p]) with
    | none =>
     have hfv : firstV ([p]) = .tuple #[.agg #[.int .i64 0, .int .i64 0, .int .i64 0, .int .i64 0, .int .i64 0, .int .i64 0, .bool false, .bool false, .string ⟨#[]⟩, .string ⟨#[]⟩], .bool false] := by unfold firstV; rw [hfl]
     have HFL : Hid (firstL ([p]) = none) := hfl
     rw [hfv] at hF
     clear hfv hfl
     go_wp2_with fail
     refine hF.mono ?_
     rintro e w2 ⟨rfl, hb2⟩
     go_upto_region 33 with (first
      | (refine wpList_store_at rfl 32 _ _ rfl _ w2.heap.size #[.int .i64 0, .int .i64 0, .int .i64 0, .int .i64 0, .int .i64 0, .int .i64 0, .bool false, .bool false, .string ⟨#[]⟩, .string ⟨#[]⟩] #[.int .i64 0, .int .i64 0, .int .i64 0, .int .i64 0, .int .i64 0, .int .i64 0, .bool false, .bool false, .string ⟨#[]⟩, .string ⟨#[]⟩] rfl rfl (At.box w2 #[.int .i64 0, .int .i64 0, .int .i64 0, .int .i64 0, .int .i64 0, .int .i64 0, .bool false, .bool false, .string ⟨#[]⟩, .string ⟨#[]⟩] 32) rfl (by kernel_rfl) oneZ ?_; intro w4 hQ4 ht4)
      | go_in)
     have q4 : Below w2.heap.size w2 w4 := (bel1 w2 (.cells #[.int .i64 0, .int .i64 0, .int .i64 0, .int .i64 0, .int .i64 0, .int .i64 0, .bool false, .bool false, .string ⟨#[]⟩, .string ⟨#[]⟩] 32)).trans (below_turn ht4 (Nat.le_refl _) (bel1 w2 _).size)
     have hb4 := bt l9 (bt hb2 q4)
     have hZb := hZ8.later hb4
     have HXb0 := HX8.out.later hb4
     have HXb : Hid _ := HXb0
     clear HXb0
     have HTb : Hid (Turn (fun k => k = K) w w4) := HT8.out.later hb4
     clear hQ4 ht4 q4 hb2 hb4 hZ9 hF k3 e1
     have WHYN : firstL ([p]) = none ∨ decide ((d.size : Int) = lastE ([p]) (-1)) = false := Or.inl HFL.out
     cases dn with
     | false =>
      go_wp2_with (first
       | (refine wpList_store_at rfl 32 _ _ rfl _ (w.heap.size + 1) #[.int .i64 0, .int .i64 0, .int .i64 0, .int .i64 0, .int .i64 0, .int .i64 0, .bool false, .bool false, .string ⟨#[]⟩, .string ⟨#[]⟩] #[.int .i64 0, .int .i64 0, .int .i64 0, .int .i64 0, .int .i64 0, .int .i64 0, .bool false, .bool false, .string ⟨#[]⟩, .string ⟨#[]⟩] rfl rfl hZb rfl (by kernel_rfl) oneZ ?_; intro w5 hZ5 ht5))
      have r0 := (hZ5.2 0 _ rfl).1
      have r1 := (hZ5.2 1 _ rfl).1
      have r2 := (hZ5.2 2 _ rfl).1
      have r3 := (hZ5.2 3 _ rfl).1
      have r4 := (hZ5.2 4 _ rfl).1
      have r5 := (hZ5.2 5 _ rfl).1
      have r6 := (hZ5.2 6 _ rfl).1
      have r7 := (hZ5.2 7 _ rfl).1
      have r8 := (hZ5.2 8 _ rfl).1
      have r9 := (hZ5.2 9 _ rfl).1
      have HE := tkb_fin (z := w.heap.size + 1) (by omega) (by omega) HXb.out HB8.out HN8.out HOL.out HTb.out hkw ht5
      exact bodyPost_ret (v := .tuple #[.agg #[.int .i64 0, .int .i64 0, .int .i64 0, .int .i64 0, .int .i64 0, .int .i64 0, .bool false, .bool false, .string ⟨#[]⟩, .string ⟨#[]⟩], .bool false, .int .i64 0]) (by simp [results, Try.results14, go_sem, r0, r1, r2, r3, r4, r5, r6, r7, r8, r9]) rfl ⟨d, HCH.out.1, HCH.out.2, Or.inr ⟨WHYN, rfl, _, HE⟩⟩
     | true =>
      go_wp2_with (first
       | (refine wpList_store_at rfl 32 _ _ rfl _ (w.heap.size + 1) #[.int .i64 0, .int .i64 0, .int .i64 0, .int .i64 0, .int .i64 0, .int .i64 0, .bool false, .bool false, .string ⟨#[]⟩, .string ⟨#[]⟩] #[.int .i64 0, .int .i64 0, .int .i64 0, .int .i64 0, .int .i64 0, .int .i64 0, .bool false, .bool false, .string ⟨#[]⟩, .string ⟨#[]⟩] rfl rfl hZb rfl (by kernel_rfl) oneZ ?_; intro w5 hZ5 ht5))
      have r0 := (hZ5.2 0 _ rfl).1
      have r1 := (hZ5.2 1 _ rfl).1
      have r2 := (hZ5.2 2 _ rfl).1
      have r3 := (hZ5.2 3 _ rfl).1
      have r4 := (hZ5.2 4 _ rfl).1
      have r5 := (hZ5.2 5 _ rfl).1
      have r6 := (hZ5.2 6 _ rfl).1
      have r7 := (hZ5.2 7 _ rfl).1
      have r8 := (hZ5.2 8 _ rfl).1
      have r9 := (hZ5.2 9 _ rfl).1
      have HE := tkb_fin (z := w.heap.size + 1) (by omega) (by omega) HXb.out HB8.out HN8.out HOL.out HTb.out hkw ht5
      exact bodyPost_ret (v := .tuple #[.agg #[.int .i64 0, .int .i64 0, .int .i64 0, .int .i64 0, .int .i64 0, .int .i64 0, .bool false, .bool false, .string ⟨#[]⟩, .string ⟨#[]⟩], .bool false, .int .i64 0]) (by simp [results, Try.results14, go_sem, r0, r1, r2, r3, r4, r5, r6, r7, r8, r9]) rfl ⟨d, HCH.out.1, HCH.out.2, Or.inr ⟨WHYN, rfl, _, HE⟩⟩
    | some q =>
     have hfv : firstV ([p]) = .tuple #[.agg #[.int .i64 q.f, .int .i64 q.t, .int .i64 q.tl, .int .i64 q.pr, .int .i64 q.id, .int .i64 q.fr, .bool q.mo, .bool q.dn, .string q.op, .string q.da], .bool true] := by unfold firstV; rw [hfl]
     have HFL : Hid (firstL ([p]) = some q) := hfl
     rw [hfv] at hF
     clear hfv hfl
     have hoq := oneQ q
     go_wp2_with fail
     refine hF.mono ?_
     rintro e w2 ⟨rfl, hb2⟩
     go_upto_region 33 with (first
      | (refine wpList_store_at rfl 32 _ _ rfl _ w2.heap.size #[.int .i64 0, .int .i64 0, .int .i64 0, .int .i64 0, .int .i64 0, .int .i64 0, .bool false, .bool false, .string ⟨#[]⟩, .string ⟨#[]⟩] #[.int .i64 q.f, .int .i64 q.t, .int .i64 q.tl, .int .i64 q.pr, .int .i64 q.id, .int .i64 q.fr, .bool q.mo, .bool q.dn, .string q.op, .string q.da] rfl rfl (At.box w2 #[.int .i64 0, .int .i64 0, .int .i64 0, .int .i64 0, .int .i64 0, .int .i64 0, .bool false, .bool false, .string ⟨#[]⟩, .string ⟨#[]⟩] 32) rfl (by kernel_rfl) hoq ?_; intro w4 hQ4 ht4)
      | go_in)
     have q4 : Below w2.heap.size w2 w4 := (bel1 w2 (.cells #[.int .i64 0, .int .i64 0, .int .i64 0, .int .i64 0, .int .i64 0, .int .i64 0, .bool false, .bool false, .string ⟨#[]⟩, .string ⟨#[]⟩] 32)).trans (below_turn ht4 (Nat.le_refl _) (bel1 w2 _).size)
     have hb4 := bt l9 (bt hb2 q4)
     have hZb := hZ8.later hb4
     have HXb0 := HX8.out.later hb4
     have HXb : Hid _ := HXb0
     clear HXb0
     have HTb : Hid (Turn (fun k => k = K) w w4) := HT8.out.later hb4
     have hw28 : w8.heap.size ≤ w2.heap.size := Nat.le_trans hs9 hb2.size
     have k3b := (HXb.out.box.2 3 _ rfl).1
     have HOW : Hid (∀ x ∈ L, RW w4 base x.v x.ps) := fun y hy => (HO8.out y hy).later hb4
     clear ht4 q4 hb2 hb4 hZ9 hF k3 e1
     obtain ⟨wb, hwb⟩ : ∃ x, x = w4 := ⟨w4, rfl⟩
     subst hwb
     have hQb := hQ4
     clear hQ4
     generalize w2.heap.size = nb at *
     cases dn with
     | false =>
      clear k3b hQb
      have WHYN : firstL ([p]) = none ∨ decide ((d.size : Int) = lastE ([p]) (-1)) = false := Or.inr HDX.out.symm
      go_wp2_with (first
       | (refine wpList_store_at rfl 32 _ _ rfl _ (w.heap.size + 1) #[.int .i64 0, .int .i64 0, .int .i64 0, .int .i64 0, .int .i64 0, .int .i64 0, .bool false, .bool false, .string ⟨#[]⟩, .string ⟨#[]⟩] #[.int .i64 0, .int .i64 0, .int .i64 0, .int .i64 0, .int .i64 0, .int .i64 0, .bool false, .bool false, .string ⟨#[]⟩, .string ⟨#[]⟩] rfl rfl hZb rfl (by kernel_rfl) oneZ ?_; intro w5 hZ5 ht5))
      have r0 := (hZ5.2 0 _ rfl).1
      have r1 := (hZ5.2 1 _ rfl).1
      have r2 := (hZ5.2 2 _ rfl).1
      have r3 := (hZ5.2 3 _ rfl).1
      have r4 := (hZ5.2 4 _ rfl).1
      have r5 := (hZ5.2 5 _ rfl).1
      have r6 := (hZ5.2 6 _ rfl).1
      have r7 := (hZ5.2 7 _ rfl).1
      have r8 := (hZ5.2 8 _ rfl).1
      have r9 := (hZ5.2 9 _ rfl).1
      have HE := tkb_fin (z := w.heap.size + 1) (by omega) (by omega) HXb.out HB8.out HN8.out HOL.out HTb.out hkw ht5
      exact bodyPost_ret (v := .tuple #[.agg #[.int .i64 0, .int .i64 0, .int .i64 0, .int .i64 0, .int .i64 0, .int .i64 0, .bool false, .bool false, .string ⟨#[]⟩, .string ⟨#[]⟩], .bool false, .int .i64 0]) (by simp [results, Try.results14, go_sem, r0, r1, r2, r3, r4, r5, r6, r7, r8, r9]) rfl ⟨d, HCH.out.1, HCH.out.2, Or.inr ⟨WHYN, rfl, _, HE⟩⟩
     | true =>
      have HDN : Hid (decide ((d.size : Int) = lastE ([p]) (-1)) = true) := HDX.out.symm
      have HRb : Hid (∀ y ∈ (L ++ [(⟨now, .slice (some ⟨g9, 0, none⟩) 1 1, [p]⟩ : DP)]), RW wb base y.v y.ps) := HXb.out.ok
      have hwo := without_any K base ro pa now _ ((L ++ [(⟨now, .slice (some ⟨g9, 0, none⟩) 1 1, [p]⟩ : DP)]).map DP.e) wb HXb.out.box HXb.out.list (one_list HRb.out) (by rw [List.length_map]; exact hlen8) k (by rw [List.length_map]; exact hk8)
      clear k3b
      go_wp2_with fail
      refine hwo.mono ?_
      rintro e wg ⟨v8, rfl, hdo, lg⟩
      rw [map_cut, cut_snoc HKL.out] at hdo
      obtain ⟨p8, n8, c8, h8⟩ := hdo.dr.shape
      subst h8
      have hKg := HXb.out.box.later lg
      have hZg := hZb.later lg
      have hQg := hQb.later lg
      have hsg := lg.size
      have kt := turn_set wg K 3 (.slice p8 n8 c8)
      have hZg2 := hZg.turn kt (by omega)
      have hQg2 := hQg.turn kt (by omega)
      have hsb : w.heap.size + 1 < wb.heap.size := hZb.1
      have hbq : ∀ j, (Value.slice p8 n8 c8).ownBlock = some j → j ≠ nb := fun j hj e => by have := hdo.ge j hj; have := hQb.1; omega
      have HBQ : Hid (∀ j, (Value.slice p8 n8 c8).ownBlock = some j → j ≠ nb) := hbq
      clear hbq
      have HEND : Hid (DX (wg.setCell ⟨K, 3, none⟩ (.slice p8 n8 c8)) K base ro pa now (.slice p8 n8 c8) (L) ∧ (∀ j, (Value.slice p8 n8 c8).ownBlock = some j → w.heap.size + 2 ≤ j) ∧ Turn (fun k => k = K) w (wg.setCell ⟨K, 3, none⟩ (.slice p8 n8 c8))) := by
       have hbb := HXb.out.bw
       refine ⟨⟨hKg.set 3 _, (hdo.dr.low (by omega)).turn kt (fun j hj _ e => by omega), fun y hy => ((HOW.out y hy).later lg).turn kt (fun j hj e => by have := ((HOW.out y hy).ge j hj); omega), hkb, by have := kt.size; omega⟩, fun j hj => by have := hdo.ge j hj; omega, (HTb.out.later lg).trans kt⟩
      have k3 := (hKg.2 3 _ rfl).1
      have f3 := (hKg.2 3 _ rfl).2
      have k9 := (hQg2.2 9 _ rfl).1
      have f9 := (hQg2.2 9 _ rfl).2
      have hQ9 := hQg2.set 9 (.string d)
      have k6 := (hQ9.2 6 _ rfl).1
      have f6 := (hQ9.2 6 _ rfl).2
      have hQ6 : At (((wg.setCell ⟨K, 3, none⟩ (.slice p8 n8 c8)).setCell ⟨nb, 9, none⟩ (.string d)).setCell ⟨nb, 6, none⟩ (.bool false)) nb #[.int .i64 q.f, .int .i64 q.t, .int .i64 q.tl, .int .i64 q.pr, .int .i64 q.id, .int .i64 q.fr, .bool false, .bool q.dn, .string q.op, .string d] := hQ9.set 6 (.bool false)
      have ktq : Turn (fun k => k = nb) (wg.setCell ⟨K, 3, none⟩ (.slice p8 n8 c8)) (((wg.setCell ⟨K, 3, none⟩ (.slice p8 n8 c8)).setCell ⟨nb, 9, none⟩ (.string d)).setCell ⟨nb, 6, none⟩ (.bool false)) := (turn_set _ nb 9 _).trans (turn_set _ nb 6 _)
      clear hwo hdo hZg hQg hZb hQb hQg2 hQ9 hKg kt
      go_upto_region 38 with fail
      clear k3 f3 k9 f9 k6 f6
      have hZ9 := hZg2.turn ktq (by omega)
      have hhb : w.heap.size + 2 ≤ nb := by omega
      obtain ⟨HEa, HEb, HEc⟩ := HEND.out
      have HD9 : Hid (DX (((wg.setCell ⟨K, 3, none⟩ (.slice p8 n8 c8)).setCell ⟨nb, 9, none⟩ (.string d)).setCell ⟨nb, 6, none⟩ (.bool false)) K base ro pa now (.slice p8 n8 c8) (L) ∧ Turn (fun k => k = K) w (((wg.setCell ⟨K, 3, none⟩ (.slice p8 n8 c8)).setCell ⟨nb, 9, none⟩ (.string d)).setCell ⟨nb, 6, none⟩ (.bool false))) := by
       refine ⟨⟨HEa.box.turn ktq (by omega), HEa.list.turnB ktq (fun j hj e => by exact HBQ.out j hj e), fun y hy => (HEa.ok y hy).turn ktq (fun j hj e => by have := HOL.out y (id hy) j hj; omega), hkb, by have := ktq.size; have := HEa.bw; omega⟩, HEc.step ktq (fun j hj => by omega)⟩
      clear HEa HEc hZg2 ktq
      generalize ((wg.setCell ⟨K, 3, none⟩ (.slice p8 n8 c8)).setCell ⟨nb, 9, none⟩ (.string d)).setCell ⟨nb, 6, none⟩ (.bool false) = wz at *
      have hoh := hone_head q d
      go_wp2_with (first
       | (refine wpList_load_at rfl 32 _ rfl _ nb #[.int .i64 q.f, .int .i64 q.t, .int .i64 q.tl, .int .i64 q.pr, .int .i64 q.id, .int .i64 q.fr, .bool false, .bool q.dn, .string q.op, .string d] _ rfl hQ6 Try.underlying32 (by kernel_rfl) ?_)
       | (refine wpList_store_at rfl 32 _ _ rfl _ (w.heap.size + 1) #[.int .i64 0, .int .i64 0, .int .i64 0, .int .i64 0, .int .i64 0, .int .i64 0, .bool false, .bool false, .string ⟨#[]⟩, .string ⟨#[]⟩] #[.int .i64 q.f, .int .i64 q.t, .int .i64 q.tl, .int .i64 q.pr, .int .i64 q.id, .int .i64 q.fr, .bool false, .bool q.dn, .string q.op, .string d] rfl rfl hZ9 rfl (by kernel_rfl) hoh ?_; intro w5 hZ5 ht5))
      have r0 := (hZ5.2 0 _ rfl).1
      have r1 := (hZ5.2 1 _ rfl).1
      have r2 := (hZ5.2 2 _ rfl).1
      have r3 := (hZ5.2 3 _ rfl).1
      have r4 := (hZ5.2 4 _ rfl).1
      have r5 := (hZ5.2 5 _ rfl).1
      have r6 := (hZ5.2 6 _ rfl).1
      have r7 := (hZ5.2 7 _ rfl).1
      have r8 := (hZ5.2 8 _ rfl).1
      have r9 := (hZ5.2 9 _ rfl).1
      have HE := tkb_fin (z := w.heap.size + 1) (by omega) (by omega) HD9.out.1 HEb (fun y hy => Or.inl (id hy)) HOL.out HD9.out.2 hkw ht5
      exact bodyPost_ret (v := .tuple #[.agg #[.int .i64 q.f, .int .i64 q.t, .int .i64 q.tl, .int .i64 q.pr, .int .i64 q.id, .int .i64 q.fr, .bool false, .bool q.dn, .string q.op, .string d], .bool true, .int .i64 0]) (by simp [results, Try.results14, go_sem, r0, r1, r2, r3, r4, r5, r6, r7, r8, r9]) rfl ⟨d, HCH.out.1, HCH.out.2, Or.inl ⟨q, HFL.out, HDN.out, rfl, HE⟩⟩
end Go.Proofs.Ytcjhniehbafhpaa
