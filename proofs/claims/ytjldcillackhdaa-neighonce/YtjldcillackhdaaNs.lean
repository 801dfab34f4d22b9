/- The two maps of NeighOnce in its state; Take in one form; rows of what is lost. -/
import Derived.Test.YtjldcillackhdaaNr
namespace Go.Proofs.Ytjldcillackhdaa
open Go.RowKit Go.Maps Go.Proofs.Ytjldcillackhdaa.Eth Go.Proofs.Ytjldcillackhdaa.Eth.Arp
set_option maxRecDepth 100000
set_option linter.unusedVariables false
set_option linter.unusedSimpArgs false

theorem OW.putT {n0 C M A g c TM WM bw : Nat} (K : KC n0 C M A g TM WM bw) {w : World} {la wt : Int} {gk : Int → Option (Int × Int)} {ga : Ga} {gi wi : Int → List Int} {tf : Int → Option Int} {wf : Int → Option Value} (h : (OW w C M A g c TM WM bw la wt gk ga gi wi tf wf)) {tl : List Vn} (hT : VM w TM tl) (htl : ∀ k, vlk tl k = (tf k).map (Value.int .i64)) {w' : World} {pt m : Int} (hv : VM w' TM (vput tl (pt, .int .i64 m))) (ht : Turn (fun j => j = TM) w w') : (OW w' C M A g c TM WM bw la wt gk ga gi wi (fun k => if k = pt then some m else tf k) wf) := by
  obtain ⟨hC, hO, hM, hA, -, ⟨wl, hW, hwl⟩, hI, hd, hR, hs⟩ := h
  obtain ⟨⟨l1, l2, l3⟩, ⟨n1, n2, n3, n4, n5, n6⟩, m1, m2, m3, m4, m5, m6⟩ := K
  refine ⟨hC.turn ht (by omega), hO.turn ht (fun b hb he => by simp [Value.ownBlock] at hb; omega), hM.turn ht (by omega), hA.turn ht (by omega), ⟨_, hv, fun k => ?_⟩, ⟨wl, hW.turn ht (by omega), hwl⟩, fun k => (hI k).turn ht (fun b hb he => by have := (hI k).ge b hb; omega), hd, fun k p hp => (hR k p hp).turn ht (fun b hb he => by have := (hR k p hp).ge b hb; omega), Nat.le_trans hs ht.size⟩
  rw [vlk_put hv.2 hT.2]
  by_cases e : k = pt
  · simp [e]
  · simp [e, htl k]
theorem OW.putW {n0 C M A g c TM WM bw : Nat} (K : KC n0 C M A g TM WM bw) {w : World} {la wt : Int} {gk : Int → Option (Int × Int)} {ga : Ga} {gi wi : Int → List Int} {tf : Int → Option Int} {wf : Int → Option Value} (h : (OW w C M A g c TM WM bw la wt gk ga gi wi tf wf)) {wl : List Vn} (hW : VM w WM wl) (hwl : ∀ k, vlk wl k = wf k) {w6 w' : World} {pt : Int} {v : Value} {zs : List Int} (h6 : Turn (fun k => ((wf pt).getD (.slice none 0 0)).ownBlock = some k) w w6) (hI6 : OI w6 bw v zs) (hfr : ∀ k, v.ownBlock = some k → ((wf pt).getD (.slice none 0 0)).ownBlock = some k ∨ w.heap.size ≤ k) (hv : VM w' WM (vput wl (pt, v))) (h7 : Turn (fun j => j = WM) w6 w') : (OW w' C M A g c TM WM bw la wt gk ga gi (fun k => if k = pt then zs else wi k) tf (fun k => if k = pt then some v else wf k)) := by
  obtain ⟨hC, hO, hM, hA, ⟨tl, hT, htl⟩, -, hI, hd, hR, hs⟩ := h
  obtain ⟨⟨l1, l2, l3⟩, ⟨n1, n2, n3, n4, n5, n6⟩, m1, m2, m3, m4, m5, m6⟩ := K
  have hge := (hI pt).ge
  have hs6 := h6.size
  refine ⟨(hC.turn h6 (fun he => by have := hge _ he; omega)).turn h7 (by omega), (hO.turn h6 (fun b hb he => by simp [Value.ownBlock] at hb; have := hge _ he; omega)).turn h7 (fun b hb he => by simp [Value.ownBlock] at hb; omega), (hM.turn h6 (fun he => by have := hge _ he; omega)).turn h7 (by omega), (hA.turn h6 (fun he => by have := hge _ he; omega)).turn h7 (by omega), ⟨tl, (hT.turn h6 (fun he => by have := hge _ he; omega)).turn h7 (by omega), htl⟩, ⟨_, hv, fun k => ?_⟩, fun k => ?_, fun k k' hk b hb => ?_, fun k p hp => ?_, Nat.le_trans hs (Nat.le_trans h6.size h7.size)⟩
  · rw [vlk_put hv.2 hW.2]
    by_cases e : k = pt
    · simp [e]
    · simp [e, hwl k]
  · by_cases e : k = pt
    · simp only [e, if_true, Option.getD_some]
      exact hI6.turn h7 (fun b hb he => by have := hI6.ge b hb; omega)
    · simp only [e, if_false]
      have h1 := (hI k).turn h6 (fun b hb he => hd k pt e b hb he)
      exact h1.turn h7 (fun b hb he => by have := h1.ge b hb; omega)
  · by_cases e : k = pt
    · have e' : k' ≠ pt := fun h => hk (e.trans h.symm)
      simp only [e, if_true, Option.getD_some] at hb
      simp only [e', if_false]
      intro hb'
      rcases hfr b hb with h1 | h1
      · exact hd k' pt e' b hb' h1
      · have := ((hI k').ge b hb').2
        omega
    · simp only [e, if_false] at hb
      by_cases e' : k' = pt
      · simp only [e', if_true, Option.getD_some]
        intro hb'
        rcases hfr b hb' with h1 | h1
        · exact hd k pt e b hb h1
        · have := ((hI k).ge b hb).2
          omega
      · simp only [e', if_false]
        exact hd k k' hk b hb
  · have h1 := (hR k p hp).turn h6 (fun b hb he => OI.apart (hI pt) (hR k p hp) he hb)
    exact h1.turn h7 (fun b hb he => by have := h1.ge b hb; omega)
theorem take_one {n0 C M A g c TM WM bw : Nat} (K : KC n0 C M A g TM WM bw) {w : World} {la wt : Int} {gk : Int → Option (Int × Int)} {ga : Ga} {gi wi : Int → List Int} {tf : Int → Option Int} {wf : Int → Option Value} (h : (OW w C M A g c TM WM bw la wt gk ga gi wi tf wf)) (p : OP la wt gk ga gi) (pt fm now : Int) (hn : la ≤ now ∧ now ≤ 200) (hpt : 11 ≤ pt ∧ pt < 15) (hfm : 3 ≤ fm ∧ fm < 10) (hto : TO la gk tf) :
    Calls Try.prog 10 #[.pointer (some ⟨C, 0, none⟩), .agg #[.int .i64 2, .int .i64 fm, .int .i64 pt, .int .i64 2, .int .i64 10], .int .i64 now] w fun e w' => ∃ gk' ga' qp qc x, e = .returned (.tuple #[.agg #[.int .i64 0, .int .i64 0, .int .i64 0, .int .i64 0, .int .i64 0], .slice qp (gi pt).length qc, .int .i64 x, .int .i64 0]) ∧ PR w' bw (.slice qp (gi pt).length qc) pt (gi pt) ∧ (OW w' C M A g c TM WM bw now (wt - (gi pt).length) gk' ga' (delG gi pt) wi tf wf) ∧ OP now (wt - (gi pt).length) gk' ga' (delG gi pt) ∧ TO now gk' (fun k => if k = pt then some fm else tf k) ∧ Below n0 w w' := by
  refine (take_once K h p pt fm now hn hpt hfm hto).mono ?_
  rintro e w' ⟨hb, gk', ht, ⟨he, rfl, h1, h2⟩ | ⟨he, qp, qc, ga', rfl, h0, h1, h2⟩⟩
  · have hd : delG gi pt = gi := by
      funext k
      unfold delG
      by_cases e : k = pt
      · simp [e, he]
      · simp [e]
    refine ⟨gk', ga, none, 0, 0, by rw [he]; rfl, ?_, ?_, ?_, ht, hb⟩
    · rw [he]; exact PR.nil _ _ _
    · rw [hd, he]; simpa using h1
    · rw [hd, he]; simpa using h2
  · exact ⟨gk', ga', qp, qc, fm, rfl, h0, h1, h2, ht, hb⟩
theorem xflat_at : ∀ (l : List (Int × Int)) (i : Nat) (e : Int × Int), l[i]? = some e → ∀ j v, (pkC e.1 e.2)[j]? = some v → (l.flatMap (fun p => pkC p.1 p.2))[i * 10 + j]? = some v
  | [], i, e, h => by simp at h
  | y :: r, 0, e, h => by
    obtain rfl : y = e := by simpa using h
    intro j v hv
    have hj : j < (pkC y.1 y.2).length := (List.getElem?_eq_some_iff.1 hv).1
    rw [List.flatMap_cons, Nat.zero_mul, Nat.zero_add, List.getElem?_append_left hj]
    exact hv
  | y :: r, i + 1, e, h => by
    intro j v hv
    have := xflat_at r i e (by simpa using h) j v hv
    rw [List.flatMap_cons, List.getElem?_append_right (by simp [pkC]; omega)]
    rw [show (i + 1) * 10 + j - (pkC y.1 y.2).length = i * 10 + j by simp [pkC]; omega]
    exact this
theorem PX.shape {w : World} {b : Nat} {v : Value} {l : List (Int × Int)} (h : PX w b v l) : ∃ a c, v = .slice a l.length c := by
  rcases h.2 with ⟨rfl, h0⟩ | ⟨g, cap, cur, rfl, -⟩
  · exact ⟨none, 0, by rw [h0]⟩
  · exact ⟨_, _, rfl⟩
theorem PX.cells {w : World} {base : Nat} {v : Value} {l : List (Int × Int)} (h : PX w base v l) {i : Nat} {e : Int × Int} (he : l[i]? = some e) :
    ∃ g cap, v = .slice (some ⟨g, 0, none⟩) l.length cap ∧ base ≤ g ∧ ∀ j u, (pkC e.1 e.2)[j]? = some u → w.cell? ⟨g, i * 10 + j, none⟩ = some u := by
  have hi : i < l.length := (List.getElem?_eq_some_iff.1 he).1
  rcases h.2 with ⟨rfl, h0⟩ | ⟨g, cap, cur, rfl, hg, hb, h1, h2, h3, h4⟩
  · omega
  · refine ⟨g, cap, rfl, hg, fun j u hu => ?_⟩
    have hx := xflat_at l i e he j u hu
    rw [← h4] at hx
    have hj : i * 10 + j < l.length * 10 := by
      have := (List.getElem?_eq_some_iff.1 hx).1
      rw [List.length_take] at this
      omega
    rw [List.getElem?_take_of_lt hj] at hx
    simp [World.cell?, hb]
    simpa using hx
theorem OI.apartX {w : World} {b1 b2 : Nat} {v u : Value} {zs : List Int} {l : List (Int × Int)} (h : OI w b1 v zs) (k : PX w b2 u l) {j : Nat} (hj : v.ownBlock = some j) (hu : u.ownBlock = some j) : False := by
  rcases h with ⟨rfl, -⟩ | ⟨g, off, cap, cur, rfl, hg, hb, -⟩
  · simp [Value.ownBlock] at hj
  · rcases k.2 with ⟨rfl, -⟩ | ⟨g', cap', cur', rfl, hg', hb', -⟩
    · simp [Value.ownBlock] at hu
    · simp [Value.ownBlock] at hj hu
      subst hj
      subst hu
      rw [hb] at hb'
      injection hb' with h1
      injection h1 with h2 h3
      cases h3
def sumL (gi : Int → List Int) : Nat → Int
  | 0 => 0
  | j + 1 => sumL gi j + (gi (11 + j)).length
theorem sub_cons (k i : Int) (L : List (Int × Int)) (x : Int) : sub ((k, i) :: L) x = if x = k then i :: sub L x else sub L x := by
  unfold sub
  by_cases e : x = k
  · subst e; simp
  · have e' : ¬ k = x := fun h => e h.symm
    simp [e, e']
/-- The keys of the two maps. -/
def TW (tf : Int → Option Int) (wf : Int → Option Value) : Prop := (∀ k, (tf k).isSome = true → 11 ≤ k ∧ k < 11 + (4 : Nat)) ∧ ∀ k, (wf k).isSome = true → 11 ≤ k ∧ k < 11 + (4 : Nat)
theorem TW.put1 {tf : Int → Option Int} {wf : Int → Option Value} (h : TW tf wf) {pt m : Int} (hp : 11 ≤ pt ∧ pt < 15) : TW (fun k => if k = pt then some m else tf k) wf := ⟨fun k hk => by
  by_cases e : k = pt
  · omega
  · simp only [e, if_false] at hk; exact h.1 k hk, h.2⟩
theorem TW.put2 {tf : Int → Option Int} {wf : Int → Option Value} (h : TW tf wf) {pt : Int} {v : Value} (hp : 11 ≤ pt ∧ pt < 15) : TW tf (fun k => if k = pt then some v else wf k) := ⟨h.1, fun k hk => by
  by_cases e : k = pt
  · omega
  · simp only [e, if_false] at hk; exact h.2 k hk⟩
theorem TW.len1 {tf : Int → Option Int} {wf : Int → Option Value} (h : TW tf wf) {tl : List Vn} (hr : VRise tl) (htl : ∀ k, vlk tl k = (tf k).map (Value.int .i64)) : tl.length ≤ 4 := vm_keys hr htl (fun k hk => h.1 k (by simpa using hk))
theorem TW.len2 {tf : Int → Option Int} {wf : Int → Option Value} (h : TW tf wf) {wl : List Vn} (hr : VRise wl) (hwl : ∀ k, vlk wl k = wf k) : wl.length ≤ 4 := vm_keys hr hwl h.2
theorem zeroI (w : World) : (zeroValue 3).run Try.prog w = .ok (.int .i64 0) w := by kernel_rfl
theorem zeroS (w : World) : (zeroValue 38).run Try.prog w = .ok (.slice none 0 0) w := by kernel_rfl
end Go.Proofs.Ytjldcillackhdaa
