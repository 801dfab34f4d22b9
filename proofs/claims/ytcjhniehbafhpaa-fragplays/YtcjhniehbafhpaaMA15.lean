/- the texts Jl, Jc, in part, merged by program -/
import Derived.Test.YtcjhniehbafhpaaProg
import Derived.Test.YtcjhniehbafhpaaRows
import Derived.Deep.QuietTactic
import Derived.BigQuiet
import Derived.WalkKit
import Derived.WalkSpells
import Derived.Laws.OwnMore
import Derived.Maps.RangeWalk
import Derived.Maps.OwnSet
import Derived.Maps.Ext
import Derived.Maps.Keyed
import Derived.DeepKeys4
import Derived.WalkSmall
import Derived.Deep.Cut
import Derived.Deep.CutRange
import Derived.Deep.MidRow
import Derived.Deep.RegionWith
import Derived.OwnWalk
import Derived.Laws.CopyRow
import Derived.OrdersHeld
import Derived.Shelf.Spec.SlicesInsert
import Derived.Lib.AppendZerosOnto
import Derived.Maps.AppendAt
import Derived.Lib.Overlaps
import Derived.Shelf.Strings.BuilderK
import Derived.Laws.AppendOwn
import Derived.Laws.AppendOwnNone
import Derived.Carry
import Derived.Shelf.SlSortCmp.WholeK
import Derived.Great.BuildSlice
import Derived.Shelf.SlSortCmp.NoneTotal
import Derived.Deep.RegionHeld3
import Derived.LoopN
import Derived.Test.YtcjhniehbafhpaaMA01
import Derived.Test.YtcjhniehbafhpaaMA02
import Derived.Test.YtcjhniehbafhpaaMA03
import Derived.Test.YtcjhniehbafhpaaMA04
import Derived.Test.YtcjhniehbafhpaaMA05
import Derived.Test.YtcjhniehbafhpaaMA06
import Derived.Test.YtcjhniehbafhpaaMA07
import Derived.Test.YtcjhniehbafhpaaMA08
import Derived.Test.YtcjhniehbafhpaaMA09
import Derived.Test.YtcjhniehbafhpaaMA10
import Derived.Test.YtcjhniehbafhpaaMA11
import Derived.Test.YtcjhniehbafhpaaMA12
import Derived.Test.YtcjhniehbafhpaaMA13
namespace Go.Proofs.Ytcjhniehbafhpaa
open Go.RowKit Go.Maps
set_option maxRecDepth 100000
set_option linter.unusedVariables false
set_option linter.unusedSimpArgs false

def sameB (q p : Pk) : Bool := decide (q.fr = p.fr) && decide (q.da = p.da) && (q.mo == p.mo)
set_option maxHeartbeats 8000000 in
theorem rtake_has (p : Pk) (hmay : p.may = true) {w : World} {K base : Nat} {ro pa la : Int} {v : Value} {L : List DP} (h : DX w K base ro pa la v L) (now : Int) (hn1 : la ≤ now) (hn2 : now ≤ 1099511627776) (hwh : wholeB p.fr p.mo = false) (hll : L.length ≤ 64) (i : Nat) (hil : i < L.length) (hno : ∀ k x, k < i → L[k]? = some x → ∃ q, x.ps[0]? = some q ∧ mk q ≠ mk p) (hye : ∀ x, L[i]? = some x → ∃ q, x.ps[0]? = some q ∧ mk q = mk p) (hpl : ∀ x ∈ L, x.ps.length ≤ 1000) (hhas : ∀ x, L[i]? = some x → ∃ q ∈ x.ps, sameB q p = true) :
    Calls Try.prog 14 #[.pointer (some ⟨K, 0, none⟩), .agg #[.int .i64 p.f, .int .i64 p.t, .int .i64 p.tl, .int .i64 p.pr, .int .i64 p.id, .int .i64 p.fr, .bool p.mo, .bool p.dn, .string p.op, .string p.da], .int .i64 now] w fun e w' => e = .returned (.tuple #[.agg #[.int .i64 0, .int .i64 0, .int .i64 0, .int .i64 0, .int .i64 0, .int .i64 0, .bool false, .bool false, .string ⟨#[]⟩, .string ⟨#[]⟩], .bool false, .int .i64 0]) ∧ TK0 w w' K base ro pa now v L := by
  have HNO : Hid (∀ k x, k < i → L[k]? = some x → ∃ q, x.ps[0]? = some q ∧ mk q ≠ mk p) := hno
  have HYE : Hid (∀ x, L[i]? = some x → ∃ q, x.ps[0]? = some q ∧ mk q = mk p) := hye
  have HPL : Hid (∀ x ∈ L, x.ps.length ≤ 1000) := hpl
  have HHA : Hid (∀ x, L[i]? = some x → ∃ q ∈ x.ps, sameB q p = true) := hhas
  clear hno hye hpl hhas
  have hp := may_fine hmay
  have ho : p.op.size ≤ 1125899906842624 := by have := hp.ol; omega
  have hd : p.da.size ≤ 1125899906842624 := by have := hp.dl; omega
  have hPb := (At.box w #[.int .i64 p.f, .int .i64 p.t, .int .i64 p.tl, .int .i64 p.pr, .int .i64 p.id, .int .i64 p.fr, .bool p.mo, .bool p.dn, .string p.op, .string p.da] 32).later (bel1 _ (.cells #[.int .i64 0, .int .i64 0, .int .i64 0, .int .i64 0, .int .i64 0, .int .i64 0, .bool false, .bool false, .string ⟨#[]⟩, .string ⟨#[]⟩] 32))
  have hZb := At.box2 w (.cells #[.int .i64 p.f, .int .i64 p.t, .int .i64 p.tl, .int .i64 p.pr, .int .i64 p.id, .int .i64 p.fr, .bool p.mo, .bool p.dn, .string p.op, .string p.da] 32) #[.int .i64 0, .int .i64 0, .int .i64 0, .int .i64 0, .int .i64 0, .int .i64 0, .bool false, .bool false, .string ⟨#[]⟩, .string ⟨#[]⟩] 32
  have hl0 := bt (bel1 w (.cells #[.int .i64 p.f, .int .i64 p.t, .int .i64 p.tl, .int .i64 p.pr, .int .i64 p.id, .int .i64 p.fr, .bool p.mo, .bool p.dn, .string p.op, .string p.da] 32)) (bel1 _ (.cells #[.int .i64 0, .int .i64 0, .int .i64 0, .int .i64 0, .int .i64 0, .int .i64 0, .bool false, .bool false, .string ⟨#[]⟩, .string ⟨#[]⟩] 32))
  have hK := h.box
  have hT := h.list
  have hbw := h.bw
  have hkb := h.kb
  have HOK : Hid (DR w base v (L.map DP.e) ∧ ∀ x ∈ L, RW w base x.v x.ps) := ⟨hT, h.ok⟩
  obtain ⟨pp, n, cc, hv⟩ := hT.shape
  have hnl : n = L.length := by
    rcases hT with ⟨h1, h2⟩ | ⟨g, off, c, h1, -⟩
    · rw [hv] at h1
      injection h1 with _ h1
      rw [h1, ← List.length_map (f := DP.e), h2]
      rfl
    · rw [hv] at h1
      injection h1 with _ h1
      rw [h1, List.length_map]
  subst hnl
  subst hv
  replace hK := hK.later hl0
  clear h hT
  go_enter Try.func14, Try.ntmps14
  go_upto_region 1 with fail
  generalize (w.alloc (.cells #[.int .i64 p.f, .int .i64 p.t, .int .i64 p.tl, .int .i64 p.pr, .int .i64 p.id, .int .i64 p.fr, .bool p.mo, .bool p.dn, .string p.op, .string p.da] 32)).alloc (.cells #[.int .i64 0, .int .i64 0, .int .i64 0, .int .i64 0, .int .i64 0, .int .i64 0, .bool false, .bool false, .string ⟨#[]⟩, .string ⟨#[]⟩] 32) = W0 at *
  go_wp2_with (first | (refine wpList_load_at rfl 32 _ rfl _ w.heap.size #[.int .i64 p.f, .int .i64 p.t, .int .i64 p.tl, .int .i64 p.pr, .int .i64 p.id, .int .i64 p.fr, .bool p.mo, .bool p.dn, .string p.op, .string p.da] _ rfl hPb Try.underlying32 (by kernel_rfl) ?_) | fail)
  refine (rchk_t (dn := p.dn) hmay _ ho hd).mono ?_
  rintro e w1 ⟨rfl, l1⟩
  replace hZb := hZb.later l1
  replace hl0 := bt hl0 l1
  replace hK := hK.later l1
  replace hPb := hPb.later l1
  clear l1
  go_wp2_with fail
  refine (rtime_t K ro pa la now _ w1 hK hn1 hn2).mono ?_
  rintro e w2 ⟨rfl, hK2, ht2⟩
  have hs0 := hl0.size
  have hP2 := hPb.turn ht2 (fun e => by omega)
  have hZ2 := hZb.turn ht2 (fun e => by omega)
  have HT2 : Hid (Turn (fun k => k = K) w w2) := ((Turn.of_below (S := fun k => k = K) hl0)).trans ht2
  clear hPb hZb hK ht2 hl0
  go_wp2_with (first | (refine wpList_load_at rfl 32 _ rfl _ w.heap.size #[.int .i64 p.f, .int .i64 p.t, .int .i64 p.tl, .int .i64 p.pr, .int .i64 p.id, .int .i64 p.fr, .bool p.mo, .bool p.dn, .string p.op, .string p.da] _ rfl hP2 Try.underlying32 (by kernel_rfl) ?_) | fail)
  refine (rwhl_any p.f p.t p.tl p.pr p.id p.fr p.mo p.dn p.op p.da w2).mono ?_
  rw [hwh]
  rintro e w3 ⟨rfl, l3⟩
  have hP3 := hP2.later l3
  have hZ3 := hZ2.later l3
  have hK3 := hK2.later l3
  have ht3 := HT2.out.later l3
  have HT3 : Hid (Turn (fun k => k = K) w w3) := ht3
  have HD3 : Hid (DR w3 base (.slice pp L.length cc) (L.map DP.e)) := HOK.out.1.turn ht3 (fun k hk _ e => by omega)
  have HR3 : Hid (∀ x ∈ L, RW w3 base x.v x.ps) := fun x hx => (HOK.out.2 x hx).turn ht3 (fun k hk e => by have := (HOK.out.2 x hx).ge k hk; omega)
  have hs3 := ht3.size
  have hs4 : w.heap.size + 1 < w3.heap.size := hZ3.1
  clear l3 hP2 hZ2 HT2 hK2 ht3
  have hli : (L.length : Int) ≤ 64 := by omega
  go_wp2
  go_loopw [11] (fun vi wr => ∃ k : Nat, k ≤ i ∧ vi = .int .i64 (k : Int) ∧ Below w3.heap.size w3 wr) (fun vi _ => i - (intOf vi).toNat)
  case atStart => exact ⟨0, Nat.zero_le _, rfl, Below.refl _ _⟩
  case round =>
    obtain ⟨k, hk, rfl, hb⟩ := hrel
    have hlt : k < L.length := by omega
    by_cases hki : k < i
    skip
    obtain ⟨x, hx⟩ : ∃ x, L[k]? = some x := ⟨L[k], List.getElem?_eq_getElem hlt⟩
    have hxl := List.mem_of_getElem? hx
    obtain ⟨q, hq, hmk⟩ := HNO.out k x hki hx
    have hrow := (HR3.out x hxl).later hb
    obtain ⟨gx, xc, hxv, hcl⟩ : ∃ gx xc, x.v = .slice (some ⟨gx, 0, none⟩) x.ps.length xc ∧ ∀ j u, q.L[j]? = some u → wr.cell? ⟨gx, j, none⟩ = some u := by
      obtain ⟨g, c', cur, hv, -⟩ := hrow.real (fun e => by rw [e] at hq; cases hq)
      refine ⟨g, c', hv, fun j u hu => ?_⟩
      rw [hv] at hrow
      have := hrow.cells hq j u hu
      simpa using this
    obtain ⟨g, off, rfl, hgw, e1⟩ : ∃ g off, pp = some ⟨g, off, none⟩ ∧ g < w3.heap.size ∧ w3.cell? ⟨g, off + k * 2 + 1, none⟩ = some x.v := by
      rcases HD3.out with ⟨-, h2⟩ | ⟨g, off, c, h1, -, -, h3, h4⟩
      · rw [List.map_eq_nil_iff] at h2; rw [h2] at hlt; exact absurd hlt (Nat.not_lt_zero _)
      · injection h1 with h1
        have := h4 k x.e (by rw [List.getElem?_map, hx]; rfl)
        exact ⟨g, off, h1, h3, this.2⟩
    rw [hxv] at e1
    replace e1 := later hb e1
    clear hxv hrow
    have hKr := hK3.later hb
    have hPr := hP3.later hb
    obtain ⟨⟨a0, a1, a2, a3, a4, a5, a6, a7, a8, a9⟩, -, -⟩ := hPr.ten
    have c3 := (hKr.2 3 _ rfl).1
    have hc3 : ∀ wx, Below wr.heap.size wr wx → wx.cell? ⟨K, 3, none⟩ = some (.slice (some ⟨g, off, none⟩) L.length cc) := fun wx h => later h c3
    have he1 : ∀ wx, Below wr.heap.size wr wx → wx.cell? ⟨g, off + k * 2 + 1, none⟩ = some (.slice (some ⟨gx, 0, none⟩) x.ps.length xc) := fun wx h => later h e1
    have hp0 := fun wx (h : Below wr.heap.size wr wx) => later h a0
    have hp1 := fun wx (h : Below wr.heap.size wr wx) => later h a1
    have hp2 := fun wx (h : Below wr.heap.size wr wx) => later h a2
    have hp3 := fun wx (h : Below wr.heap.size wr wx) => later h a3
    have hp4 := fun wx (h : Below wr.heap.size wr wx) => later h a4
    have hp5 := fun wx (h : Below wr.heap.size wr wx) => later h a5
    have hp6 := fun wx (h : Below wr.heap.size wr wx) => later h a6
    have hp7 := fun wx (h : Below wr.heap.size wr wx) => later h a7
    have hp8 := fun wx (h : Below wr.heap.size wr wx) => later h a8
    have hp9 := fun wx (h : Below wr.heap.size wr wx) => later h a9
    have hq0 := fun wx (h : Below wr.heap.size wr wx) => later h (hcl 0 _ rfl)
    have hq1 := fun wx (h : Below wr.heap.size wr wx) => later h (hcl 1 _ rfl)
    have hq2 := fun wx (h : Below wr.heap.size wr wx) => later h (hcl 2 _ rfl)
    have hq3 := fun wx (h : Below wr.heap.size wr wx) => later h (hcl 3 _ rfl)
    have hq4 := fun wx (h : Below wr.heap.size wr wx) => later h (hcl 4 _ rfl)
    have hq5 := fun wx (h : Below wr.heap.size wr wx) => later h (hcl 5 _ rfl)
    have hq6 := fun wx (h : Below wr.heap.size wr wx) => later h (hcl 6 _ rfl)
    have hq7 := fun wx (h : Below wr.heap.size wr wx) => later h (hcl 7 _ rfl)
    have hq8 := fun wx (h : Below wr.heap.size wr wx) => later h (hcl 8 _ rfl)
    have hq9 := fun wx (h : Below wr.heap.size wr wx) => later h (hcl 9 _ rfl)
    have hk1 : (k : Int) < (L.length : Int) := by omega
    have hk3 : (0 : Int) ≤ (k : Int) := by omega
    have hxl0 : 0 < x.ps.length := by
      cases hps : x.ps with
      | nil => rw [hps] at hq; cases hq
      | cons _ _ => simp
    have hxl1 : (0 : Int) < (x.ps.length : Int) := by omega
    clear hx hxl hcl c3 e1 hKr hPr a0 a1 a2 a3 a4 a5 a6 a7 a8 a9
    have hdec : decide (mk q = mk p) = false := decide_eq_false hmk
    clear hmk hq
    go_upto_region 10 with fail
    refine wp_region_held_drew (S := (fun W => Below wr.heap.size wr W)) (by kernel_rfl) ?_ (fun hHeld => ?_)
    · first | exact (Below.refl _ _).drew | assumption
    refine tk (i := 0) (oi := ⟨some 36, .move (.tmp 11), 3, "ref.go:120", #[], none⟩) (v := .int .i64 (k : Int)) rfl (by kernel_rfl) (fun _ _ _ h => h) (Or.inl ⟨by rfl, ?_⟩) (by assumption) ?_
    · intro wx hSw
      go_simp
      try with_reducible rfl
    try simp only [Act.put, La1, La2, La3]
    refine tk (i := 1) (oi := ⟨some 37, .move (.tmp 0), 27, "ref.go:120", #[], none⟩) (v := .pointer (some ⟨K, 0, none⟩)) rfl (by kernel_rfl) (fun _ _ _ h => h) (Or.inl ⟨by rfl, ?_⟩) (by assumption) ?_
    · intro wx hSw
      go_simp
      try with_reducible rfl
    try simp only [Act.put, La1, La2, La3]
    refine tk (i := 2) (oi := ⟨some 38, .nilCheck (.tmp 37), 0, "ref.go:120", #[⟨1, .data⟩], none⟩) (v := .pointer (some ⟨K, 0, none⟩)) rfl (by kernel_rfl) (fun _ _ _ h => h) (Or.inl ⟨by rfl, ?_⟩) (by assumption) ?_
    · intro wx hSw
      go_simp
      try with_reducible rfl
    try simp only [Act.put, La1, La2, La3]
    refine tk (i := 3) (oi := ⟨some 39, .fieldAddr 44 (.tmp 38) 3, 0, "ref.go:120", #[⟨2, .data⟩], none⟩) (v := .pointer (some ⟨K, 3, none⟩)) rfl (by kernel_rfl) (fun _ _ _ h => h) (Or.inl ⟨by rfl, ?_⟩) (by assumption) ?_
    · intro wx hSw
      go_simp
      try with_reducible rfl
    try simp only [Act.put, La1, La2, La3]
    refine tk (i := 4) (oi := ⟨some 40, .load 42 (.tmp 39), 42, "ref.go:120", #[⟨3, .data⟩], none⟩) (v := .slice (some ⟨g, off, none⟩) L.length cc) rfl (by kernel_rfl) (fun _ _ _ h => h) (Or.inl ⟨by rfl, ?_⟩) (by assumption) ?_
    · intro wx hSw
      try dsimp only at hSw
      have u3 := hc3 wx hSw
      have u1 := he1 wx hSw
      have u10 := hp0 wx hSw
      have u11 := hp1 wx hSw
      have u12 := hp2 wx hSw
      have u13 := hp3 wx hSw
      have u14 := hp4 wx hSw
      have u15 := hp5 wx hSw
      have u16 := hp6 wx hSw
      have u17 := hp7 wx hSw
      have u18 := hp8 wx hSw
      have u19 := hp9 wx hSw
      have u20 := hq0 wx hSw
      have u21 := hq1 wx hSw
      have u22 := hq2 wx hSw
      have u23 := hq3 wx hSw
      have u24 := hq4 wx hSw
      have u25 := hq5 wx hSw
      have u26 := hq6 wx hSw
      have u27 := hq7 wx hSw
      have u28 := hq8 wx hSw
      have u29 := hq9 wx hSw
      go_simp
      try with_reducible rfl
    try simp only [Act.put, La1, La2, La3]
    refine tk (i := 5) (oi := ⟨some 41, .call { callee := .builtin .len, args := #[.tmp 40], argTypes := #[42] }, 3, "ref.go:120", #[⟨4, .data⟩], none⟩) (v := .int .i64 (L.length : Int)) rfl (by kernel_rfl) (fun _ _ _ h => h) (Or.inl ⟨by rfl, ?_⟩) (by assumption) ?_
    · intro wx hSw
      try dsimp only at hSw
      have u3 := hc3 wx hSw
      have u1 := he1 wx hSw
      have u10 := hp0 wx hSw
      have u11 := hp1 wx hSw
      have u12 := hp2 wx hSw
      have u13 := hp3 wx hSw
      have u14 := hp4 wx hSw
      have u15 := hp5 wx hSw
      have u16 := hp6 wx hSw
      have u17 := hp7 wx hSw
      have u18 := hp8 wx hSw
      have u19 := hp9 wx hSw
      have u20 := hq0 wx hSw
      have u21 := hq1 wx hSw
      have u22 := hq2 wx hSw
      have u23 := hq3 wx hSw
      have u24 := hq4 wx hSw
      have u25 := hq5 wx hSw
      have u26 := hq6 wx hSw
      have u27 := hq7 wx hSw
      have u28 := hq8 wx hSw
      have u29 := hq9 wx hSw
      go_simp
      try with_reducible rfl
    try simp only [Act.put, La1, La2, La3]
    refine tk (i := 6) (oi := ⟨some 42, .binOp .lss 3 (.tmp 36) (.tmp 41) 3, 4, "ref.go:120", #[⟨0, .data⟩, ⟨5, .data⟩], none⟩) (v := .bool true) rfl (by kernel_rfl) (fun _ _ _ h => h) (Or.inl ⟨by rfl, ?_⟩) (by assumption) ?_
    · intro wx hSw
      go_simp
      try with_reducible rfl
    try simp only [Act.put, La1, La2, La3]
    refine tk (i := 7) (oi := ⟨some 43, .move (.tmp 42), 4, "ref.go:120", #[⟨6, .data⟩], none⟩) (v := .bool true) rfl (by kernel_rfl) (fun _ _ _ h => h) (Or.inl ⟨by rfl, ?_⟩) (by assumption) ?_
    · intro wx hSw
      go_simp
      try with_reducible rfl
    try simp only [Act.put, La1, La2, La3]
    refine tk (i := 8) (oi := ⟨some 44, .move (.tmp 0), 27, "ref.go:120", #[⟨7, .guard⟩], some (7, true)⟩) (v := .pointer (some ⟨K, 0, none⟩)) rfl (by kernel_rfl) (fun _ _ _ h => h) (Or.inl ⟨by rfl, ?_⟩) (by assumption) ?_
    · intro wx hSw
      go_simp
      try with_reducible rfl
    try simp only [Act.put, La1, La2, La3]
    refine tk (i := 9) (oi := ⟨some 45, .nilCheck (.tmp 44), 0, "ref.go:120", #[⟨8, .data⟩, ⟨7, .guard⟩], some (7, true)⟩) (v := .pointer (some ⟨K, 0, none⟩)) rfl (by kernel_rfl) (fun _ _ _ h => h) (Or.inl ⟨by rfl, ?_⟩) (by assumption) ?_
    · intro wx hSw
      go_simp
      try with_reducible rfl
    try simp only [Act.put, La1, La2, La3]
    refine tk (i := 10) (oi := ⟨some 46, .fieldAddr 44 (.tmp 45) 3, 0, "ref.go:120", #[⟨9, .data⟩, ⟨7, .guard⟩], some (7, true)⟩) (v := .pointer (some ⟨K, 3, none⟩)) rfl (by kernel_rfl) (fun _ _ _ h => h) (Or.inl ⟨by rfl, ?_⟩) (by assumption) ?_
    · intro wx hSw
      go_simp
      try with_reducible rfl
    try simp only [Act.put, La1, La2, La3]
    refine tk (i := 11) (oi := ⟨some 47, .load 42 (.tmp 46), 42, "ref.go:120", #[⟨10, .data⟩, ⟨7, .guard⟩], some (7, true)⟩) (v := .slice (some ⟨g, off, none⟩) L.length cc) rfl (by kernel_rfl) (fun _ _ _ h => h) (Or.inl ⟨by rfl, ?_⟩) (by assumption) ?_
    · intro wx hSw
      try dsimp only at hSw
      have u3 := hc3 wx hSw
      have u1 := he1 wx hSw
      have u10 := hp0 wx hSw
      have u11 := hp1 wx hSw
      have u12 := hp2 wx hSw
      have u13 := hp3 wx hSw
      have u14 := hp4 wx hSw
      have u15 := hp5 wx hSw
      have u16 := hp6 wx hSw
      have u17 := hp7 wx hSw
      have u18 := hp8 wx hSw
      have u19 := hp9 wx hSw
      have u20 := hq0 wx hSw
      have u21 := hq1 wx hSw
      have u22 := hq2 wx hSw
      have u23 := hq3 wx hSw
      have u24 := hq4 wx hSw
      have u25 := hq5 wx hSw
      have u26 := hq6 wx hSw
      have u27 := hq7 wx hSw
      have u28 := hq8 wx hSw
      have u29 := hq9 wx hSw
      go_simp
      try with_reducible rfl
    try simp only [Act.put, La1, La2, La3]
    refine tk (i := 12) (oi := ⟨some 48, .move (.tmp 11), 3, "ref.go:120", #[⟨7, .guard⟩], some (7, true)⟩) (v := .int .i64 (k : Int)) rfl (by kernel_rfl) (fun _ _ _ h => h) (Or.inl ⟨by rfl, ?_⟩) (by assumption) ?_
    · intro wx hSw
      go_simp
      try with_reducible rfl
    try simp only [Act.put, La1, La2, La3]
    refine tk (i := 13) (oi := ⟨some 49, .indexAddr 42 (.tmp 47) (.tmp 48), 0, "ref.go:120", #[⟨11, .data⟩, ⟨12, .data⟩, ⟨7, .guard⟩], some (7, true)⟩) (v := .pointer (some ⟨g, off + k * 2, none⟩)) rfl (by kernel_rfl) (fun _ _ _ h => h) (Or.inl ⟨by rfl, ?_⟩) (by assumption) ?_
    · intro wx hSw
      go_simp
      try with_reducible rfl
    try simp only [Act.put, La1, La2, La3]
    refine tk (i := 14) (oi := ⟨some 50, .fieldAddr 64 (.tmp 49) 1, 0, "ref.go:120", #[⟨13, .data⟩, ⟨7, .guard⟩], some (7, true)⟩) (v := .pointer (some ⟨g, off + k * 2 + 1, none⟩)) rfl (by kernel_rfl) (fun _ _ _ h => h) (Or.inl ⟨by rfl, ?_⟩) (by assumption) ?_
    · intro wx hSw
      go_simp
      try with_reducible rfl
    try simp only [Act.put, La1, La2, La3]
    refine tk (i := 15) (oi := ⟨some 51, .load 36 (.tmp 50), 36, "ref.go:120", #[⟨14, .data⟩, ⟨7, .guard⟩], some (7, true)⟩) (v := .slice (some ⟨gx, 0, none⟩) x.ps.length xc) rfl (by kernel_rfl) (fun _ _ _ h => h) (Or.inl ⟨by rfl, ?_⟩) (by assumption) ?_
    · intro wx hSw
      try dsimp only at hSw
      have u3 := hc3 wx hSw
      have u1 := he1 wx hSw
      have u10 := hp0 wx hSw
      have u11 := hp1 wx hSw
      have u12 := hp2 wx hSw
      have u13 := hp3 wx hSw
      have u14 := hp4 wx hSw
      have u15 := hp5 wx hSw
      have u16 := hp6 wx hSw
      have u17 := hp7 wx hSw
      have u18 := hp8 wx hSw
      have u19 := hp9 wx hSw
      have u20 := hq0 wx hSw
      have u21 := hq1 wx hSw
      have u22 := hq2 wx hSw
      have u23 := hq3 wx hSw
      have u24 := hq4 wx hSw
      have u25 := hq5 wx hSw
      have u26 := hq6 wx hSw
      have u27 := hq7 wx hSw
      have u28 := hq8 wx hSw
      have u29 := hq9 wx hSw
      go_simp
      try with_reducible rfl
    try simp only [Act.put, La1, La2, La3]
    refine tk (i := 16) (oi := ⟨some 52, .indexAddr 36 (.tmp 51) (.const (.int .i64 0)), 0, "ref.go:120", #[⟨15, .data⟩, ⟨7, .guard⟩], some (7, true)⟩) (v := .pointer (some ⟨gx, 0, none⟩)) rfl (by kernel_rfl) (fun _ _ _ h => h) (Or.inl ⟨by rfl, ?_⟩) (by assumption) ?_
    · intro wx hSw
      go_simp
      try with_reducible rfl
    try simp only [Act.put, La1, La2, La3]
    refine tk (i := 17) (oi := ⟨some 53, .load 32 (.tmp 52), 32, "ref.go:120", #[⟨16, .data⟩, ⟨7, .guard⟩], some (7, true)⟩) (v := .agg #[.int .i64 q.f, .int .i64 q.t, .int .i64 q.tl, .int .i64 q.pr, .int .i64 q.id, .int .i64 q.fr, .bool q.mo, .bool q.dn, .string q.op, .string q.da]) rfl (by kernel_rfl) (fun _ _ _ h => h) (Or.inl ⟨by rfl, ?_⟩) (by assumption) ?_
    · intro wx hSw
      try dsimp only at hSw
      have u3 := hc3 wx hSw
      have u1 := he1 wx hSw
      have u10 := hp0 wx hSw
      have u11 := hp1 wx hSw
      have u12 := hp2 wx hSw
      have u13 := hp3 wx hSw
      have u14 := hp4 wx hSw
      have u15 := hp5 wx hSw
      have u16 := hp6 wx hSw
      have u17 := hp7 wx hSw
      have u18 := hp8 wx hSw
      have u19 := hp9 wx hSw
      have u20 := hq0 wx hSw
      have u21 := hq1 wx hSw
      have u22 := hq2 wx hSw
      have u23 := hq3 wx hSw
      have u24 := hq4 wx hSw
      have u25 := hq5 wx hSw
      have u26 := hq6 wx hSw
      have u27 := hq7 wx hSw
      have u28 := hq8 wx hSw
      have u29 := hq9 wx hSw
      go_simp
      try with_reducible rfl
    try simp only [Act.put, La1, La2, La3]
    refine tk (i := 18) (oi := ⟨some 54, .load 32 (.tmp 4), 32, "ref.go:120", #[⟨7, .guard⟩], some (7, true)⟩) (v := .agg #[.int .i64 p.f, .int .i64 p.t, .int .i64 p.tl, .int .i64 p.pr, .int .i64 p.id, .int .i64 p.fr, .bool p.mo, .bool p.dn, .string p.op, .string p.da]) rfl (by kernel_rfl) (fun _ _ _ h => h) (Or.inl ⟨by rfl, ?_⟩) (by assumption) ?_
    · intro wx hSw
      try dsimp only at hSw
      have u3 := hc3 wx hSw
      have u1 := he1 wx hSw
      have u10 := hp0 wx hSw
      have u11 := hp1 wx hSw
      have u12 := hp2 wx hSw
      have u13 := hp3 wx hSw
      have u14 := hp4 wx hSw
      have u15 := hp5 wx hSw
      have u16 := hp6 wx hSw
      have u17 := hp7 wx hSw
      have u18 := hp8 wx hSw
      have u19 := hp9 wx hSw
      have u20 := hq0 wx hSw
      have u21 := hq1 wx hSw
      have u22 := hq2 wx hSw
      have u23 := hq3 wx hSw
      have u24 := hq4 wx hSw
      have u25 := hq5 wx hSw
      have u26 := hq6 wx hSw
      have u27 := hq7 wx hSw
      have u28 := hq8 wx hSw
      have u29 := hq9 wx hSw
      go_simp
      try with_reducible rfl
    try simp only [Act.put, La1, La2, La3]
    refine wpAnyH_ready (rs := [19]) (by kernel_rfl) (by simp) ?_
    refine AllReadyH.cons (o := ⟨some 55, .call { callee := .value (.func 26), args := #[.tmp 53, .tmp 54], argTypes := #[32, 32] }, 4, "ref.go:120", #[⟨17, .data⟩, ⟨18, .data⟩, ⟨7, .chain⟩, ⟨7, .guard⟩], some (7, true)⟩) rfl (fun K hK => ?_) AllReadyH.nil
    go_simp
    go_at_call 26
    refine (tog_any q p _).mono ?_
    rintro e wc ⟨rfl, hbc⟩
    rw [hdec]
    first
      | refine hK.out _ _ ?_ (fun hHeld => ?_)
      | (go_wp2_with fail; refine hK.out _ _ ?_ (fun hHeld => ?_))
    · try dsimp only
      exact bt hHeld hbc
    clear hK K
    try simp only [Act.put, La1, La2, La3]
    refine tk (i := 20) (oi := ⟨some 56, .unOp .not 4 (.tmp 55), 4, "ref.go:120", #[⟨19, .data⟩, ⟨7, .guard⟩], some (7, true)⟩) (v := .bool true) rfl (by kernel_rfl) (fun _ _ _ h => h) (Or.inl ⟨by rfl, ?_⟩) (by assumption) ?_
    · intro wx hSw
      go_simp
      try with_reducible rfl
    try simp only [Act.put, La1, La2, La3]
    refine tk (i := 21) (oi := ⟨some 57, .pick (.tmp 43) (.tmp 56) (.const (.bool false)), 4, "ref.go:120", #[⟨7, .data⟩, ⟨20, .data⟩], none⟩) (v := .bool true) rfl (by kernel_rfl) (fun _ _ _ h => h) (Or.inl ⟨by rfl, ?_⟩) (by assumption) ?_
    · intro wx hSw
      go_simp
      try with_reducible rfl
    try simp only [Act.put, La1, La2, La3]
    refine wpAnyH_done (by kernel_rfl) ?_ _
    have hb' := bt hb hHeld
    clear hHeld
    go_wp2
    go_roundw
    case rel => exact ⟨k + 1, by omega, by first | rfl | simp, hb'⟩
    case measure => simp [intOf]; omega
    have hkk : k = i := by omega
    subst hkk
    obtain ⟨x, hx⟩ : ∃ x, L[k]? = some x := ⟨L[k], List.getElem?_eq_getElem hlt⟩
    have hxl := List.mem_of_getElem? hx
    obtain ⟨q, hq, hmk⟩ := HYE.out x hx
    have hrow := (HR3.out x hxl).later hb
    obtain ⟨gx, xc, hxv, hcl⟩ : ∃ gx xc, x.v = .slice (some ⟨gx, 0, none⟩) x.ps.length xc ∧ ∀ j u, q.L[j]? = some u → wr.cell? ⟨gx, j, none⟩ = some u := by
      obtain ⟨g, c', cur, hv, -⟩ := hrow.real (fun e => by rw [e] at hq; cases hq)
      refine ⟨g, c', hv, fun j u hu => ?_⟩
      rw [hv] at hrow
      have := hrow.cells hq j u hu
      simpa using this
    obtain ⟨g, off, rfl, hgw, e1⟩ : ∃ g off, pp = some ⟨g, off, none⟩ ∧ g < w3.heap.size ∧ w3.cell? ⟨g, off + k * 2 + 1, none⟩ = some x.v := by
      rcases HD3.out with ⟨-, h2⟩ | ⟨g, off, c, h1, -, -, h3, h4⟩
      · rw [List.map_eq_nil_iff] at h2; rw [h2] at hlt; exact absurd hlt (Nat.not_lt_zero _)
      · injection h1 with h1
        have := h4 k x.e (by rw [List.getElem?_map, hx]; rfl)
        exact ⟨g, off, h1, h3, this.2⟩
    rw [hxv] at e1
    replace e1 := later hb e1
    rw [hxv] at hrow
    clear hxv
    have hKr := hK3.later hb
    have hPr := hP3.later hb
    obtain ⟨⟨a0, a1, a2, a3, a4, a5, a6, a7, a8, a9⟩, -, -⟩ := hPr.ten
    have c3 := (hKr.2 3 _ rfl).1
    have hc3 : ∀ wx, Below wr.heap.size wr wx → wx.cell? ⟨K, 3, none⟩ = some (.slice (some ⟨g, off, none⟩) L.length cc) := fun wx h => later h c3
    have he1 : ∀ wx, Below wr.heap.size wr wx → wx.cell? ⟨g, off + k * 2 + 1, none⟩ = some (.slice (some ⟨gx, 0, none⟩) x.ps.length xc) := fun wx h => later h e1
    have hp0 := fun wx (h : Below wr.heap.size wr wx) => later h a0
    have hp1 := fun wx (h : Below wr.heap.size wr wx) => later h a1
    have hp2 := fun wx (h : Below wr.heap.size wr wx) => later h a2
    have hp3 := fun wx (h : Below wr.heap.size wr wx) => later h a3
    have hp4 := fun wx (h : Below wr.heap.size wr wx) => later h a4
    have hp5 := fun wx (h : Below wr.heap.size wr wx) => later h a5
    have hp6 := fun wx (h : Below wr.heap.size wr wx) => later h a6
    have hp7 := fun wx (h : Below wr.heap.size wr wx) => later h a7
    have hp8 := fun wx (h : Below wr.heap.size wr wx) => later h a8
    have hp9 := fun wx (h : Below wr.heap.size wr wx) => later h a9
    have hq0 := fun wx (h : Below wr.heap.size wr wx) => later h (hcl 0 _ rfl)
    have hq1 := fun wx (h : Below wr.heap.size wr wx) => later h (hcl 1 _ rfl)
    have hq2 := fun wx (h : Below wr.heap.size wr wx) => later h (hcl 2 _ rfl)
    have hq3 := fun wx (h : Below wr.heap.size wr wx) => later h (hcl 3 _ rfl)
    have hq4 := fun wx (h : Below wr.heap.size wr wx) => later h (hcl 4 _ rfl)
    have hq5 := fun wx (h : Below wr.heap.size wr wx) => later h (hcl 5 _ rfl)
    have hq6 := fun wx (h : Below wr.heap.size wr wx) => later h (hcl 6 _ rfl)
    have hq7 := fun wx (h : Below wr.heap.size wr wx) => later h (hcl 7 _ rfl)
    have hq8 := fun wx (h : Below wr.heap.size wr wx) => later h (hcl 8 _ rfl)
    have hq9 := fun wx (h : Below wr.heap.size wr wx) => later h (hcl 9 _ rfl)
    have hk1 : (k : Int) < (L.length : Int) := by omega
    have hk3 : (0 : Int) ≤ (k : Int) := by omega
    have hxl0 : 0 < x.ps.length := by
      cases hps : x.ps with
      | nil => rw [hps] at hq; cases hq
      | cons _ _ => simp
    have hxl1 : (0 : Int) < (x.ps.length : Int) := by omega
    clear hxl hcl e1 hKr hPr a0 a1 a2 a3 a4 a5 a6 a7 a8 a9
    have hdec : decide (mk q = mk p) = true := decide_eq_true hmk
    have hplx := HPL.out x (List.mem_of_getElem? hx)
    have HAS : Hid (∃ q ∈ x.ps, sameB q p = true) := HHA.out x hx
    have HRX : Hid (RW wr base (.slice (some ⟨gx, 0, none⟩) x.ps.length xc) x.ps) := hrow
    clear hmk hq hx hrow c3
    go_upto_region 10 with fail
    refine wp_region_held_drew (S := (fun W => Below wr.heap.size wr W)) (by kernel_rfl) ?_ (fun hHeld => ?_)
    · first | exact (Below.refl _ _).drew | assumption
    refine tk (i := 0) (oi := ⟨some 36, .move (.tmp 11), 3, "ref.go:120", #[], none⟩) (v := .int .i64 (k : Int)) rfl (by kernel_rfl) (fun _ _ _ h => h) (Or.inl ⟨by rfl, ?_⟩) (by assumption) ?_
    · intro wx hSw
      go_simp
      try with_reducible rfl
    try simp only [Act.put, La1, La2, La3]
    refine tk (i := 1) (oi := ⟨some 37, .move (.tmp 0), 27, "ref.go:120", #[], none⟩) (v := .pointer (some ⟨K, 0, none⟩)) rfl (by kernel_rfl) (fun _ _ _ h => h) (Or.inl ⟨by rfl, ?_⟩) (by assumption) ?_
    · intro wx hSw
      go_simp
      try with_reducible rfl
    try simp only [Act.put, La1, La2, La3]
    refine tk (i := 2) (oi := ⟨some 38, .nilCheck (.tmp 37), 0, "ref.go:120", #[⟨1, .data⟩], none⟩) (v := .pointer (some ⟨K, 0, none⟩)) rfl (by kernel_rfl) (fun _ _ _ h => h) (Or.inl ⟨by rfl, ?_⟩) (by assumption) ?_
    · intro wx hSw
      go_simp
      try with_reducible rfl
    try simp only [Act.put, La1, La2, La3]
    refine tk (i := 3) (oi := ⟨some 39, .fieldAddr 44 (.tmp 38) 3, 0, "ref.go:120", #[⟨2, .data⟩], none⟩) (v := .pointer (some ⟨K, 3, none⟩)) rfl (by kernel_rfl) (fun _ _ _ h => h) (Or.inl ⟨by rfl, ?_⟩) (by assumption) ?_
    · intro wx hSw
      go_simp
      try with_reducible rfl
    try simp only [Act.put, La1, La2, La3]
    refine tk (i := 4) (oi := ⟨some 40, .load 42 (.tmp 39), 42, "ref.go:120", #[⟨3, .data⟩], none⟩) (v := .slice (some ⟨g, off, none⟩) L.length cc) rfl (by kernel_rfl) (fun _ _ _ h => h) (Or.inl ⟨by rfl, ?_⟩) (by assumption) ?_
    · intro wx hSw
      try dsimp only at hSw
      have u3 := hc3 wx hSw
      have u1 := he1 wx hSw
      have u10 := hp0 wx hSw
      have u11 := hp1 wx hSw
      have u12 := hp2 wx hSw
      have u13 := hp3 wx hSw
      have u14 := hp4 wx hSw
      have u15 := hp5 wx hSw
      have u16 := hp6 wx hSw
      have u17 := hp7 wx hSw
      have u18 := hp8 wx hSw
      have u19 := hp9 wx hSw
      have u20 := hq0 wx hSw
      have u21 := hq1 wx hSw
      have u22 := hq2 wx hSw
      have u23 := hq3 wx hSw
      have u24 := hq4 wx hSw
      have u25 := hq5 wx hSw
      have u26 := hq6 wx hSw
      have u27 := hq7 wx hSw
      have u28 := hq8 wx hSw
      have u29 := hq9 wx hSw
      go_simp
      try with_reducible rfl
    try simp only [Act.put, La1, La2, La3]
    refine tk (i := 5) (oi := ⟨some 41, .call { callee := .builtin .len, args := #[.tmp 40], argTypes := #[42] }, 3, "ref.go:120", #[⟨4, .data⟩], none⟩) (v := .int .i64 (L.length : Int)) rfl (by kernel_rfl) (fun _ _ _ h => h) (Or.inl ⟨by rfl, ?_⟩) (by assumption) ?_
    · intro wx hSw
      try dsimp only at hSw
      have u3 := hc3 wx hSw
      have u1 := he1 wx hSw
      have u10 := hp0 wx hSw
      have u11 := hp1 wx hSw
      have u12 := hp2 wx hSw
      have u13 := hp3 wx hSw
      have u14 := hp4 wx hSw
      have u15 := hp5 wx hSw
      have u16 := hp6 wx hSw
      have u17 := hp7 wx hSw
      have u18 := hp8 wx hSw
      have u19 := hp9 wx hSw
      have u20 := hq0 wx hSw
      have u21 := hq1 wx hSw
      have u22 := hq2 wx hSw
      have u23 := hq3 wx hSw
      have u24 := hq4 wx hSw
      have u25 := hq5 wx hSw
      have u26 := hq6 wx hSw
      have u27 := hq7 wx hSw
      have u28 := hq8 wx hSw
      have u29 := hq9 wx hSw
      go_simp
      try with_reducible rfl
    try simp only [Act.put, La1, La2, La3]
    refine tk (i := 6) (oi := ⟨some 42, .binOp .lss 3 (.tmp 36) (.tmp 41) 3, 4, "ref.go:120", #[⟨0, .data⟩, ⟨5, .data⟩], none⟩) (v := .bool true) rfl (by kernel_rfl) (fun _ _ _ h => h) (Or.inl ⟨by rfl, ?_⟩) (by assumption) ?_
    · intro wx hSw
      go_simp
      try with_reducible rfl
    try simp only [Act.put, La1, La2, La3]
    refine tk (i := 7) (oi := ⟨some 43, .move (.tmp 42), 4, "ref.go:120", #[⟨6, .data⟩], none⟩) (v := .bool true) rfl (by kernel_rfl) (fun _ _ _ h => h) (Or.inl ⟨by rfl, ?_⟩) (by assumption) ?_
    · intro wx hSw
      go_simp
      try with_reducible rfl
    try simp only [Act.put, La1, La2, La3]
    refine tk (i := 8) (oi := ⟨some 44, .move (.tmp 0), 27, "ref.go:120", #[⟨7, .guard⟩], some (7, true)⟩) (v := .pointer (some ⟨K, 0, none⟩)) rfl (by kernel_rfl) (fun _ _ _ h => h) (Or.inl ⟨by rfl, ?_⟩) (by assumption) ?_
    · intro wx hSw
      go_simp
      try with_reducible rfl
    try simp only [Act.put, La1, La2, La3]
    refine tk (i := 9) (oi := ⟨some 45, .nilCheck (.tmp 44), 0, "ref.go:120", #[⟨8, .data⟩, ⟨7, .guard⟩], some (7, true)⟩) (v := .pointer (some ⟨K, 0, none⟩)) rfl (by kernel_rfl) (fun _ _ _ h => h) (Or.inl ⟨by rfl, ?_⟩) (by assumption) ?_
    · intro wx hSw
      go_simp
      try with_reducible rfl
    try simp only [Act.put, La1, La2, La3]
    refine tk (i := 10) (oi := ⟨some 46, .fieldAddr 44 (.tmp 45) 3, 0, "ref.go:120", #[⟨9, .data⟩, ⟨7, .guard⟩], some (7, true)⟩) (v := .pointer (some ⟨K, 3, none⟩)) rfl (by kernel_rfl) (fun _ _ _ h => h) (Or.inl ⟨by rfl, ?_⟩) (by assumption) ?_
    · intro wx hSw
      go_simp
      try with_reducible rfl
    try simp only [Act.put, La1, La2, La3]
    refine tk (i := 11) (oi := ⟨some 47, .load 42 (.tmp 46), 42, "ref.go:120", #[⟨10, .data⟩, ⟨7, .guard⟩], some (7, true)⟩) (v := .slice (some ⟨g, off, none⟩) L.length cc) rfl (by kernel_rfl) (fun _ _ _ h => h) (Or.inl ⟨by rfl, ?_⟩) (by assumption) ?_
    · intro wx hSw
      try dsimp only at hSw
      have u3 := hc3 wx hSw
      have u1 := he1 wx hSw
      have u10 := hp0 wx hSw
      have u11 := hp1 wx hSw
      have u12 := hp2 wx hSw
      have u13 := hp3 wx hSw
      have u14 := hp4 wx hSw
      have u15 := hp5 wx hSw
      have u16 := hp6 wx hSw
      have u17 := hp7 wx hSw
      have u18 := hp8 wx hSw
      have u19 := hp9 wx hSw
      have u20 := hq0 wx hSw
      have u21 := hq1 wx hSw
      have u22 := hq2 wx hSw
      have u23 := hq3 wx hSw
      have u24 := hq4 wx hSw
      have u25 := hq5 wx hSw
      have u26 := hq6 wx hSw
      have u27 := hq7 wx hSw
      have u28 := hq8 wx hSw
      have u29 := hq9 wx hSw
      go_simp
      try with_reducible rfl
    try simp only [Act.put, La1, La2, La3]
    refine tk (i := 12) (oi := ⟨some 48, .move (.tmp 11), 3, "ref.go:120", #[⟨7, .guard⟩], some (7, true)⟩) (v := .int .i64 (k : Int)) rfl (by kernel_rfl) (fun _ _ _ h => h) (Or.inl ⟨by rfl, ?_⟩) (by assumption) ?_
    · intro wx hSw
      go_simp
      try with_reducible rfl
    try simp only [Act.put, La1, La2, La3]
    refine tk (i := 13) (oi := ⟨some 49, .indexAddr 42 (.tmp 47) (.tmp 48), 0, "ref.go:120", #[⟨11, .data⟩, ⟨12, .data⟩, ⟨7, .guard⟩], some (7, true)⟩) (v := .pointer (some ⟨g, off + k * 2, none⟩)) rfl (by kernel_rfl) (fun _ _ _ h => h) (Or.inl ⟨by rfl, ?_⟩) (by assumption) ?_
    · intro wx hSw
      go_simp
      try with_reducible rfl
    try simp only [Act.put, La1, La2, La3]
    refine tk (i := 14) (oi := ⟨some 50, .fieldAddr 64 (.tmp 49) 1, 0, "ref.go:120", #[⟨13, .data⟩, ⟨7, .guard⟩], some (7, true)⟩) (v := .pointer (some ⟨g, off + k * 2 + 1, none⟩)) rfl (by kernel_rfl) (fun _ _ _ h => h) (Or.inl ⟨by rfl, ?_⟩) (by assumption) ?_
    · intro wx hSw
      go_simp
      try with_reducible rfl
    try simp only [Act.put, La1, La2, La3]
    refine tk (i := 15) (oi := ⟨some 51, .load 36 (.tmp 50), 36, "ref.go:120", #[⟨14, .data⟩, ⟨7, .guard⟩], some (7, true)⟩) (v := .slice (some ⟨gx, 0, none⟩) x.ps.length xc) rfl (by kernel_rfl) (fun _ _ _ h => h) (Or.inl ⟨by rfl, ?_⟩) (by assumption) ?_
    · intro wx hSw
      try dsimp only at hSw
      have u3 := hc3 wx hSw
      have u1 := he1 wx hSw
      have u10 := hp0 wx hSw
      have u11 := hp1 wx hSw
      have u12 := hp2 wx hSw
      have u13 := hp3 wx hSw
      have u14 := hp4 wx hSw
      have u15 := hp5 wx hSw
      have u16 := hp6 wx hSw
      have u17 := hp7 wx hSw
      have u18 := hp8 wx hSw
      have u19 := hp9 wx hSw
      have u20 := hq0 wx hSw
      have u21 := hq1 wx hSw
      have u22 := hq2 wx hSw
      have u23 := hq3 wx hSw
      have u24 := hq4 wx hSw
      have u25 := hq5 wx hSw
      have u26 := hq6 wx hSw
      have u27 := hq7 wx hSw
      have u28 := hq8 wx hSw
      have u29 := hq9 wx hSw
      go_simp
      try with_reducible rfl
    try simp only [Act.put, La1, La2, La3]
    refine tk (i := 16) (oi := ⟨some 52, .indexAddr 36 (.tmp 51) (.const (.int .i64 0)), 0, "ref.go:120", #[⟨15, .data⟩, ⟨7, .guard⟩], some (7, true)⟩) (v := .pointer (some ⟨gx, 0, none⟩)) rfl (by kernel_rfl) (fun _ _ _ h => h) (Or.inl ⟨by rfl, ?_⟩) (by assumption) ?_
    · intro wx hSw
      go_simp
      try with_reducible rfl
    try simp only [Act.put, La1, La2, La3]
    refine tk (i := 17) (oi := ⟨some 53, .load 32 (.tmp 52), 32, "ref.go:120", #[⟨16, .data⟩, ⟨7, .guard⟩], some (7, true)⟩) (v := .agg #[.int .i64 q.f, .int .i64 q.t, .int .i64 q.tl, .int .i64 q.pr, .int .i64 q.id, .int .i64 q.fr, .bool q.mo, .bool q.dn, .string q.op, .string q.da]) rfl (by kernel_rfl) (fun _ _ _ h => h) (Or.inl ⟨by rfl, ?_⟩) (by assumption) ?_
    · intro wx hSw
      try dsimp only at hSw
      have u3 := hc3 wx hSw
      have u1 := he1 wx hSw
      have u10 := hp0 wx hSw
      have u11 := hp1 wx hSw
      have u12 := hp2 wx hSw
      have u13 := hp3 wx hSw
      have u14 := hp4 wx hSw
      have u15 := hp5 wx hSw
      have u16 := hp6 wx hSw
      have u17 := hp7 wx hSw
      have u18 := hp8 wx hSw
      have u19 := hp9 wx hSw
      have u20 := hq0 wx hSw
      have u21 := hq1 wx hSw
      have u22 := hq2 wx hSw
      have u23 := hq3 wx hSw
      have u24 := hq4 wx hSw
      have u25 := hq5 wx hSw
      have u26 := hq6 wx hSw
      have u27 := hq7 wx hSw
      have u28 := hq8 wx hSw
      have u29 := hq9 wx hSw
      go_simp
      try with_reducible rfl
    try simp only [Act.put, La1, La2, La3]
    refine tk (i := 18) (oi := ⟨some 54, .load 32 (.tmp 4), 32, "ref.go:120", #[⟨7, .guard⟩], some (7, true)⟩) (v := .agg #[.int .i64 p.f, .int .i64 p.t, .int .i64 p.tl, .int .i64 p.pr, .int .i64 p.id, .int .i64 p.fr, .bool p.mo, .bool p.dn, .string p.op, .string p.da]) rfl (by kernel_rfl) (fun _ _ _ h => h) (Or.inl ⟨by rfl, ?_⟩) (by assumption) ?_
    · intro wx hSw
      try dsimp only at hSw
      have u3 := hc3 wx hSw
      have u1 := he1 wx hSw
      have u10 := hp0 wx hSw
      have u11 := hp1 wx hSw
      have u12 := hp2 wx hSw
      have u13 := hp3 wx hSw
      have u14 := hp4 wx hSw
      have u15 := hp5 wx hSw
      have u16 := hp6 wx hSw
      have u17 := hp7 wx hSw
      have u18 := hp8 wx hSw
      have u19 := hp9 wx hSw
      have u20 := hq0 wx hSw
      have u21 := hq1 wx hSw
      have u22 := hq2 wx hSw
      have u23 := hq3 wx hSw
      have u24 := hq4 wx hSw
      have u25 := hq5 wx hSw
      have u26 := hq6 wx hSw
      have u27 := hq7 wx hSw
      have u28 := hq8 wx hSw
      have u29 := hq9 wx hSw
      go_simp
      try with_reducible rfl
    try simp only [Act.put, La1, La2, La3]
    refine wpAnyH_ready (rs := [19]) (by kernel_rfl) (by simp) ?_
    refine AllReadyH.cons (o := ⟨some 55, .call { callee := .value (.func 26), args := #[.tmp 53, .tmp 54], argTypes := #[32, 32] }, 4, "ref.go:120", #[⟨17, .data⟩, ⟨18, .data⟩, ⟨7, .chain⟩, ⟨7, .guard⟩], some (7, true)⟩) rfl (fun K hK => ?_) AllReadyH.nil
    go_simp
    go_at_call 26
    refine (tog_any q p _).mono ?_
    rintro e wc ⟨rfl, hbc⟩
    rw [hdec]
    first
      | refine hK.out _ _ ?_ (fun hHeld => ?_)
      | (go_wp2_with fail; refine hK.out _ _ ?_ (fun hHeld => ?_))
    · try dsimp only
      exact bt hHeld hbc
    clear hK K
    try simp only [Act.put, La1, La2, La3]
    refine tk (i := 20) (oi := ⟨some 56, .unOp .not 4 (.tmp 55), 4, "ref.go:120", #[⟨19, .data⟩, ⟨7, .guard⟩], some (7, true)⟩) (v := .bool false) rfl (by kernel_rfl) (fun _ _ _ h => h) (Or.inl ⟨by rfl, ?_⟩) (by assumption) ?_
    · intro wx hSw
      go_simp
      try with_reducible rfl
    try simp only [Act.put, La1, La2, La3]
    refine tk (i := 21) (oi := ⟨some 57, .pick (.tmp 43) (.tmp 56) (.const (.bool false)), 4, "ref.go:120", #[⟨7, .data⟩, ⟨20, .data⟩], none⟩) (v := .bool false) rfl (by kernel_rfl) (fun _ _ _ h => h) (Or.inl ⟨by rfl, ?_⟩) (by assumption) ?_
    · intro wx hSw
      go_simp
      try with_reducible rfl
    try simp only [Act.put, La1, La2, La3]
    refine wpAnyH_done (by kernel_rfl) ?_ _
    have hh := hHeld
    clear hHeld
    obtain ⟨wl, hwl⟩ : ∃ z, z = wc := ⟨wc, rfl⟩
    subst hwl
    have hb' := bt hb hh
    have y3 := hc3 _ hh
    have y1 := he1 _ hh
    have hne : ((k : Int) == (L.length : Int)) = false := by simp; omega
    have HRL : Hid (RW wl base (.slice (some ⟨gx, 0, none⟩) x.ps.length xc) x.ps) := HRX.out.later hh
    have hPl := (hP3.later hb')
    have hZl := (hZ3.later hb')
    have hKl := (hK3.later hb')
    clear hc3 he1 hp0 hq0 hp1 hq1 hp2 hq2 hp3 hq3 hp4 hq4 hp5 hq5 hp6 hq6 hp7 hq7 hp8 hq8 hp9 hq9
    go_wp2
    go_loopw [13] (fun vi wr => ∃ m : Nat, m ≤ x.ps.length ∧ vi = .int .i64 (m : Int) ∧ (∀ q ∈ x.ps.take m, sameB q p = false) ∧ Below wl.heap.size wl wr) (fun vi _ => x.ps.length - (intOf vi).toNat)
    case atStart => exact ⟨0, Nat.zero_le _, rfl, (fun q hq => by simp at hq), Below.refl _ _⟩
    case round =>
      obtain ⟨m, hm, rfl, hnm, hbm⟩ := hrel
      have hmlt : m < x.ps.length := by
        rcases Nat.lt_or_ge m x.ps.length with h | h
        · exact h
        · obtain ⟨q, hq, hs⟩ := HAS.out
          rw [List.take_of_length_le h] at hnm
          rw [hnm q hq] at hs
          cases hs
      obtain ⟨y, hy⟩ : ∃ y, x.ps[m]? = some y := ⟨x.ps[m], List.getElem?_eq_getElem hmlt⟩
      have hcm := (HRL.out.later hbm).cells hy
      have z5 := hcm 5 _ rfl
      have z6 := hcm 6 _ rfl
      have z9 := hcm 9 _ rfl
      obtain ⟨⟨a0, a1, a2, a3, a4, a5, a6, a7, a8, a9⟩, -, -⟩ := (hPl.later hbm).ten
      clear a0 a1 a2 a3 a4 a7 a8 hcm
      have hm1 : (m : Int) < (x.ps.length : Int) := by omega
      have hm3 : (0 : Int) ≤ (m : Int) := by omega
      have hnx : sameB y p = false → ∀ q ∈ x.ps.take (m + 1), sameB q p = false := fun hs q hq => by
        rw [List.take_add_one, hy] at hq
        rcases List.mem_append.1 hq with h | h
        · exact hnm q h
        · simp at h; rw [h]; exact hs
      clear hy
      have HNX : Hid (sameB y p = false → ∀ q ∈ x.ps.take (m + 1), sameB q p = false) := hnx
      clear hnx hnm
      go_wp2_with fail
      go_upto_region 22 with fail
      by_cases b1 : y.fr = p.fr
      have b1' : (y.fr == p.fr) = true := by simp [b1]
      by_cases b2 : y.da = p.da
      have b2' : (y.da.toList == p.da.toList) = true := by rw [b2]; simp
      by_cases b3 : y.mo = p.mo
      have b3' : (y.mo == p.mo) = true := by simp [b3]
      clear b1 b2 b3
      go_quiet (fail)
      have qd : Below wr.heap.size wr (wr.drewN nq) := below_drewN (Below.refl _ _) nq
      have hbz := bt hbm qd
      have hZr := hZl.later hbz
      have hKr := hKl.later hbz
      generalize wr.drewN nq = we at *
      clear a5 a6 a9 z5 z6 z9 qd
      go_wp2_with (first
        | (refine wpList_store_at rfl 32 _ _ rfl _ (w.heap.size + 1) #[.int .i64 0, .int .i64 0, .int .i64 0, .int .i64 0, .int .i64 0, .int .i64 0, .bool false, .bool false, .string ⟨#[]⟩, .string ⟨#[]⟩] #[.int .i64 0, .int .i64 0, .int .i64 0, .int .i64 0, .int .i64 0, .int .i64 0, .bool false, .bool false, .string ⟨#[]⟩, .string ⟨#[]⟩] rfl rfl hZr rfl (by kernel_rfl) oneZ ?_; intro w5 hZ5 ht5))
      have r0 := (hZ5.2 0 _ rfl).1
      have r1 := (hZ5.2 1 _ rfl).1
      have r2 := (hZ5.2 2 _ rfl).1
      have r3 := (hZ5.2 3 _ rfl).1
      have r4 := (hZ5.2 4 _ rfl).1
      have r5 := (hZ5.2 5 _ rfl).1
      have r6 := (hZ5.2 6 _ rfl).1
      have r7 := (hZ5.2 7 _ rfl).1
      have r8 := (hZ5.2 8 _ rfl).1
      have r9 := (hZ5.2 9 _ rfl).1
      have HE : TK0 w w5 K base ro pa now (.slice (some ⟨g, off, none⟩) L.length cc) L := by
        have h5 : Turn (fun k => k = K) w w5 := (HT3.out.later (bt hb' hbz)).step ht5 (fun k hk => by omega)
        have hs5 := h5.size
        refine ⟨⟨hKr.turn ht5 (by omega), HOK.out.1.turn h5 (fun k hk _ e => by omega), fun x hx => (HOK.out.2 x hx).turn h5 (fun k hk e => by have := (HOK.out.2 x hx).ge k hk; omega), hkb, by omega⟩, h5⟩
      exact bodyPost_ret (v := .tuple #[.agg #[.int .i64 0, .int .i64 0, .int .i64 0, .int .i64 0, .int .i64 0, .int .i64 0, .bool false, .bool false, .string ⟨#[]⟩, .string ⟨#[]⟩], .bool false, .int .i64 0]) (by simp [results, Try.results14, go_sem, r0, r1, r2, r3, r4, r5, r6, r7, r8, r9]) rfl ⟨rfl, HE⟩
      · have hs : sameB y p = false := by simp [sameB, b3]
        have b3' : (y.mo == p.mo) = false := by simp [b3]
        clear b1 b2 b3
        go_quiet (fail)
        have hbz := bt hbm (below_drewN (Below.refl _ _) nq)
        generalize wr.drewN nq = we at *
        go_wp2
        go_roundw
        case rel => exact ⟨m + 1, by omega, by first | rfl | simp, HNX.out hs, hbz⟩
        case measure => simp [intOf]; omega
      · have hs : sameB y p = false := by simp [sameB, b2]
        have b2' : (y.da.toList == p.da.toList) = false := by rw [tl_eq]; exact decide_eq_false b2
        clear b1 b2
        go_quiet (fail)
        have hbz := bt hbm (below_drewN (Below.refl _ _) nq)
        generalize wr.drewN nq = we at *
        go_wp2
        go_roundw
        case rel => exact ⟨m + 1, by omega, by first | rfl | simp, HNX.out hs, hbz⟩
        case measure => simp [intOf]; omega
      · have hs : sameB y p = false := by simp [sameB, b1]
        have b1' : (y.fr == p.fr) = false := by simp [b1]
        clear b1
        go_quiet (fail)
        have hbz := bt hbm (below_drewN (Below.refl _ _) nq)
        generalize wr.drewN nq = we at *
        go_wp2
        go_roundw
        case rel => exact ⟨m + 1, by omega, by first | rfl | simp, HNX.out hs, hbz⟩
        case measure => simp [intOf]; omega
end Go.Proofs.Ytcjhniehbafhpaa

namespace Go.Proofs.Ytcjhniehbafhpaa
open Go.RowKit Go.Maps
set_option maxRecDepth 100000
set_option linter.unusedVariables false
set_option linter.unusedSimpArgs false

inductive Ch (ps : List Pk) : ByteArray → Prop
  | nil : Ch ps ⟨#[]⟩
  | step {d : ByteArray} {q : Pk} : Ch ps d → q ∈ ps → 8 * q.fr = (d.size : Int) → 0 < q.da.size → Ch ps (d ++ q.da)
def goesOn (n : Nat) (q : Pk) : Bool := decide (8 * q.fr = (n : Int)) && decide (0 < q.da.size)
def lastE : List Pk → Int → Int
  | [], a => a
  | q :: r, a => lastE r (if q.mo then a else q.en)
theorem lastE_snoc (ps : List Pk) (q : Pk) (a : Int) : lastE (ps ++ [q]) a = if q.mo then lastE ps a else q.en := by
  induction ps generalizing a with
  | nil => rfl
  | cons x r ih => exact ih _
def strSize : Value → Nat
  | .string s => s.size
  | _ => 0
def boolN : Value → Nat
  | .bool true => 1
  | _ => 0
theorem app_size (a b : ByteArray) : (a ++ b).size = a.size + b.size := by simp [ByteArray.size_append]
set_option maxHeartbeats 8000000 in
theorem joined_any (ps : List Pk) (v : Value) (R : Nat) (w : World) (hr : RW w R v ps) (hn : ps.length ≤ 1000) (hf : ∀ q ∈ ps, q.Fine) :
    Calls Try.prog 29 #[v] w fun e w' => ∃ d : ByteArray, e = .returned (.tuple #[.string d, .bool (decide ((d.size : Int) = lastE ps (-1)))]) ∧ Ch ps d ∧ (∀ q ∈ ps, goesOn d.size q = false) ∧ Below w.heap.size w w' := by
  obtain ⟨a, c, hv⟩ := hr.shape
  subst hv
  have HR : Hid (RW w R (.slice a ps.length c) ps) := hr
  have HF : Hid (∀ q ∈ ps, q.Fine) := hf
  have hlt0 : (ps.length : Int) ≤ 1000 := by omega
  clear hr hf
  have hcells : ∀ k q, ps[k]? = some q → ∃ g, a = some ⟨g, 0, none⟩ ∧ ∀ W, Below w.heap.size w W → ∀ j u, q.L[j]? = some u → W.cell? ⟨g, k * 10 + j, none⟩ = some u := fun k q hq => by
    obtain ⟨g, c', cur, hv, -⟩ := HR.out.real (fun e => by rw [e] at hq; cases hq)
    injection hv with e1
    subst e1
    exact ⟨g, rfl, fun W hW j u hu => later hW (HR.out.cells hq j u hu)⟩
  have HC : Hid (∀ k q, ps[k]? = some q → ∃ g, a = some ⟨g, 0, none⟩ ∧ ∀ W, Below w.heap.size w W → ∀ j u, q.L[j]? = some u → W.cell? ⟨g, k * 10 + j, none⟩ = some u) := hcells
  clear hcells
  go_enter Try.func29, Try.ntmps29
  go_wp2
  go_loopw [5, 6] (fun vl vi wr => ∃ k : Nat, k ≤ ps.length ∧ vi = .int .i64 (k : Int) ∧ vl = .int .i64 (lastE (ps.take k) (-1)) ∧ Below w.heap.size w wr) (fun _ vi _ => ps.length - (intOf vi).toNat)
  case atStart => exact ⟨0, Nat.zero_le _, rfl, rfl, Below.refl _ _⟩
  case round =>
    obtain ⟨k, hk, rfl, rfl, hb⟩ := hrel
    by_cases hlt : k < ps.length
    · obtain ⟨q, hq⟩ : ∃ q, ps[k]? = some q := ⟨ps[k], List.getElem?_eq_getElem hlt⟩
      obtain ⟨g, rfl, hcl⟩ := HC.out k q hq
      have y6 := hcl wr hb 6 _ rfl
      have hrg : wr.rangeAt g (k * 10) [.int .i64 q.f, .int .i64 q.t, .int .i64 q.tl, .int .i64 q.pr, .int .i64 q.id, .int .i64 q.fr, .bool q.mo, .bool q.dn, .string q.op, .string q.da] := hcl wr hb
      have hk1 : (k : Int) < (ps.length : Int) := by omega
      have hk3 : (0 : Int) ≤ (k : Int) := by omega
      have HL : Hid (lastE (ps.take (k + 1)) (-1) = if q.mo then lastE (ps.take k) (-1) else q.en) := by
        show _ = _
        rw [takeL_snoc hq]; exact lastE_snoc _ _ _
      have hqf := HF.out q (List.mem_of_getElem? hq)
      obtain ⟨la, hla⟩ : ∃ la, la = lastE (ps.take k) (-1) := ⟨_, rfl⟩
      have HLA : Hid (la = lastE (ps.take k) (-1)) := hla
      rw [← hla]
      clear hla hq hcl
      cases hm : q.mo with
      | true =>
        rw [hm] at y6
        have HM : Hid (q.mo = true) := hm
        clear hm hrg
        go_wp2
        go_roundw
        case rel => exact ⟨k + 1, by omega, by first | rfl | simp, by rw [HL.out, HM.out, HLA.out]; rfl, hb⟩
        case measure => simp [intOf]; omega
      | false =>
        rw [hm] at y6
        have HM : Hid (q.mo = false) := hm
        clear hm
        go_wp2_with (first
          | (refine wpList_load_mid rfl 32 _ rfl g (k * 10) (by first | rfl | simp) _ _ hrg Try.underlying32 rfl (by kernel_rfl) ?_)
          | fail)
        refine (rend_any q wr hqf).mono ?_
        rintro e w2 ⟨rfl, hb2⟩
        have hb3 := bt hb hb2
        clear hrg hb2
        go_wp2
        go_roundw
        case rel => exact ⟨k + 1, by omega, by first | rfl | simp, by rw [HL.out, HM.out]; rfl, hb3⟩
        case measure => simp [intOf]; omega
    · have hk1 : ¬ (k : Int) < (ps.length : Int) := by omega
      have hkk : k = ps.length := by omega
      obtain ⟨la, hla⟩ : ∃ la, la = lastE (ps.take k) (-1) := ⟨_, rfl⟩
      have HLA : Hid (la = lastE ps (-1)) := by show _ = _; rw [hla, hkk, List.take_length]
      rw [← hla]
      clear hla hkk
      have hb0 := hb
      go_wp2
      go_loopw [4, 7] (fun v4 v7 wr => ∃ (d : ByteArray) (b : Bool), v4 = .string d ∧ v7 = .bool b ∧ Ch ps d ∧ d.size ≤ 200000 ∧ (b = false → ∀ q ∈ ps, goesOn d.size q = false) ∧ Below w.heap.size w wr) (fun v4 v7 _ => 2 * (400000 - strSize v4) + boolN v7)
      case atStart => exact ⟨⟨#[]⟩, true, rfl, rfl, Ch.nil, by decide, (fun e => by cases e), hb0⟩
      case round =>
        clear hb0 hb
        obtain ⟨d, b, rfl, rfl, hch, hds, hno, hb⟩ := hrel
        have HCH : Hid (Ch ps d) := hch
        have hdi : (d.size : Int) ≤ 200000 := by omega
        clear hch
        cases b with
        | false =>
          have HNO : Hid (∀ q ∈ ps, goesOn d.size q = false) := hno rfl
          clear hno
          obtain ⟨eq, heq⟩ : ∃ eq, ((d.size : Int) == la) = eq := ⟨_, rfl⟩
          have HEQ : Hid (decide ((d.size : Int) = lastE ps (-1)) = eq) := by
            show _ = _
            rw [← heq, HLA.out]; rfl
          go_wp2
          go_ret2
          exact ⟨d, by first | (rw [HEQ.out]; rfl) | (rw [HEQ.out]) | (rw [HEQ.out, ← heq]), HCH.out, HNO.out, hb⟩
        | true =>
          clear hno
          go_wp2
          go_loopw [4, 7, 8] (fun v4 v7 v8 wr => ∃ k : Nat, k ≤ ps.length ∧ v4 = .string d ∧ v7 = .bool false ∧ v8 = .int .i64 (k : Int) ∧ (∀ q ∈ ps.take k, goesOn d.size q = false) ∧ Below w.heap.size w wr) (fun _ _ v8 _ => ps.length - (intOf v8).toNat)
          case atStart => exact ⟨0, Nat.zero_le _, rfl, rfl, rfl, (fun x hx => by simp at hx), hb⟩
          case round =>
            clear hb
            obtain ⟨j, hj, rfl, rfl, rfl, hno, hb⟩ := hrel
            by_cases hlj : j < ps.length
            · obtain ⟨q, hq⟩ : ∃ q, ps[j]? = some q := ⟨ps[j], List.getElem?_eq_getElem hlj⟩
              obtain ⟨g, rfl, hcl⟩ := HC.out j q hq
              have y5 := hcl wr hb 5 _ rfl
              have y9 := hcl wr hb 9 _ rfl
              have hqm := List.mem_of_getElem? hq
              have hqf := HF.out q hqm
              have f0 := hqf.f0
              have f1 := hqf.f1
              have f2 : (q.da.size : Int) ≤ 65535 := hqf.dl
              have f3 : (0 : Int) ≤ (q.da.size : Int) := by omega
              have hj1 : (j : Int) < (ps.length : Int) := by omega
              have hj3 : (0 : Int) ≤ (j : Int) := by omega
              have HS : Hid (goesOn d.size q = false → ∀ x ∈ ps.take (j + 1), goesOn d.size x = false) := fun h x hx => by
                rw [takeL_snoc hq] at hx
                rcases List.mem_append.1 hx with hx | hx
                · exact hno x hx
                · rw [List.mem_singleton.1 hx]; exact h
              have HQM : Hid (q ∈ ps) := hqm
              clear hq hcl hqm hqf hno
              by_cases h8 : 8 * q.fr = (d.size : Int)
              · have h8b : (8 * q.fr == (d.size : Int)) = true := beq_iff_eq.2 h8
                have H8 : Hid (8 * q.fr = (d.size : Int)) := h8
                clear h8
                by_cases hz : 0 < q.da.size
                · have hz1 : (0 : Int) < (q.da.size : Int) := by omega
                  have hz2 : decide (0 < q.da.size) = true := decide_eq_true hz
                  have HCN : Hid (Ch ps (d ++ q.da)) := Ch.step HCH.out HQM.out H8.out hz
                  have has := app_size d q.da
                  have HSZ : Hid ((d ++ q.da).size ≤ 200000 ∧ (d ++ q.da).size = d.size + q.da.size) := ⟨by have := H8.out; omega, has⟩
                  clear has
                  go_wp2
                  go_roundw
                  case rel => exact ⟨d ++ q.da, true, by first | rfl | simp, rfl, HCN.out, HSZ.out.1, (fun e => by cases e), hb⟩
                  case measure => have := HSZ.out; simp only [strSize, boolN]; omega
                · have hz1 : ¬ (0 : Int) < (q.da.size : Int) := by omega
                  have hz2 : decide (0 < q.da.size) = false := decide_eq_false hz
                  have HN : Hid (goesOn d.size q = false) := by show _ = _; unfold goesOn; rw [hz2]; simp
                  go_wp2
                  go_roundw
                  case rel => exact ⟨j + 1, by omega, rfl, rfl, by first | rfl | simp, HS.out HN.out, hb⟩
                  case measure => simp [intOf]; omega
              · have h8b : (8 * q.fr == (d.size : Int)) = false := beq_eq_false_iff_ne.2 h8
                have HN : Hid (goesOn d.size q = false) := by show _ = _; unfold goesOn; rw [decide_eq_false h8]; simp
                clear h8
                go_wp2
                go_roundw
                case rel => exact ⟨j + 1, by omega, rfl, rfl, by first | rfl | simp, HS.out HN.out, hb⟩
                case measure => simp [intOf]; omega
            · have hj1 : ¬ (j : Int) < (ps.length : Int) := by omega
              have hjj : j = ps.length := by omega
              have HNO : Hid (∀ q ∈ ps, goesOn d.size q = false) := by
                rw [hjj, List.take_length] at hno
                exact hno
              clear hno hjj
              go_wp2
              go_roundw
              case rel => exact ⟨d, false, rfl, rfl, HCH.out, hds, fun _ => HNO.out, hb⟩
              case measure => simp only [strSize, boolN]; omega
end Go.Proofs.Ytcjhniehbafhpaa
