/- Tick: what took too long is told by its beginning. -/
import Derived.Test.YtcjhniehbafhpaaHf
import Derived.Test.YtcjhniehbafhpaaHd
namespace Go.Proofs.Ytcjhniehbafhpaa
open Go.RowKit Go.Maps
set_option maxRecDepth 100000
set_option linter.unusedVariables false
set_option linter.unusedSimpArgs false

/-- The beginnings of those that had one. -/
def lateL (gs : List Pile) : List Pk := gs.filterMap fun x => match x.ps with
  | q :: _ => if q.fr = 0 then some q else none
  | [] => none
theorem late_snoc (gs : List Pile) (x : Pile) (q : Pk) (r : List Pk) (hx : x.ps = q :: r) : lateL (gs ++ [x]) = lateL gs ++ (if q.fr = 0 then [q] else []) := by
  unfold lateL
  rw [List.filterMap_append]
  congr 1
  by_cases h : q.fr = 0
  · simp [List.filterMap_cons, hx, h]
  · simp [List.filterMap_cons, hx, h]
theorem late_len (gs : List Pile) : (lateL gs).length ≤ gs.length := List.length_filterMap_le _ _
theorem takeL_snoc {α : Type} {l : List α} {k : Nat} {x : α} (h : l[k]? = some x) : l.take (k + 1) = l.take k ++ [x] := by
  rw [List.take_add_one, h]
  rfl
/-- What Tick leaves. -/
def TK (w w' : World) (R B M : Nat) (ro pa now tu : Int) (l : List Pile) (v : Value) : Prop := BX w' R B M ro pa now tu (l.filter fun x => !old now pa x) ∧ RW w' w.heap.size v (lateL (l.filter (old now pa))) ∧ Turn (fun k => k = B ∨ k = M) w w'
set_option maxHeartbeats 8000000 in
theorem tick_any {w : World} {R B M : Nat} {ro pa la tu : Int} {l : List Pile} (h : BX w R B M ro pa la tu l) (now : Int) (hn1 : la ≤ now) (hn2 : now ≤ 1099511627776) (hp0 : 1 ≤ pa) (hp1 : pa ≤ 1048576) (hl0 : 0 ≤ la) (hat : ∀ x ∈ l, 0 ≤ x.at_ ∧ x.at_ ≤ la) (htu : ∀ x ∈ l, 0 ≤ x.tu ∧ x.tu < 1099511627776) (hso : l.Pairwise (fun x y => x.tu < y.tu)) (hne : ∀ x ∈ l, x.ps ≠ []) (hlen : l.length ≤ 64) :
    Calls Try.prog 11 #[.pointer (some ⟨B, 0, none⟩), .int .i64 now] w fun e w' => ∃ v, e = .returned (.tuple #[v, .int .i64 0]) ∧ TK w w' R B M ro pa now tu l v := by
  have hRw := h.rw'
  have HNE : Hid (∀ x ∈ l, x.ps ≠ []) := hne
  clear hne
  go_enter Try.func11, Try.ntmps11
  go_wp2_with fail
  refine (move_any h now hn1 hn2).mono ?_
  rintro e w1 ⟨rfl, hB1, ht1⟩
  go_wp2_with fail
  refine (overdue_any hB1 hp0 hp1 (by omega) hn2 (fun x hx => ⟨(hat x hx).1, by have := (hat x hx).2; omega⟩) htu hso hlen).mono ?_
  rintro e w2 ⟨v, rfl, hB2, hGS, hok, ht2⟩
  have hs1 := ht1.size
  have hs2 := ht2.size
  have HF2 : Hid (BX w2 R B M ro pa now tu (l.filter fun x => !old now pa x) ∧ Turn (fun k => k = B ∨ k = M) w w2) := ⟨hB2, (ht1.mono (fun k e => Or.inl e)).trans (ht2.mono (fun k e => Or.inr e))⟩
  have HOK : Hid (∀ x ∈ l, x.Ok w2 R) := hok
  obtain ⟨G, hG⟩ : ∃ G, G = l.filter (old now pa) := ⟨_, rfl⟩
  have hGl : G.length ≤ 64 := by rw [hG]; exact Nat.le_trans (List.length_filter_le _ _) hlen
  have HIN : Hid (∀ x ∈ G, x ∈ l) := fun x hx => by rw [hG] at hx; exact (List.mem_filter.1 hx).1
  have HG : Hid (G = l.filter (old now pa)) := hG
  rw [← hG] at hGS
  obtain ⟨p, c, hv⟩ : ∃ p c, v = .slice p G.length c := by
    rcases hGS with ⟨e, p, c, hv⟩ | ⟨g, c, hv, -⟩
    · exact ⟨p, c, by rw [hv, e]; rfl⟩
    · exact ⟨_, c, hv⟩
  subst hv
  have HGS : Hid (GS w2 w1.heap.size (.slice p G.length c) G) := hGS
  clear hB2 hGS hok hat htu hso h hB1 ht1 ht2 hG hp0 hp1 hl0
  have hGi : (G.length : Int) ≤ 64 := by omega
  go_wp2
  go_loopw [4, 16] (fun vl vi wr => ∃ (k : Nat) (vz : Value), vl = vz ∧ k ≤ G.length ∧ vi = .int .i64 (k : Int) ∧ RW wr w2.heap.size vz (lateL (G.take k)) ∧ Below w2.heap.size w2 wr) (fun _ vi _ => G.length - (intOf vi).toNat)
  case atStart => exact ⟨0, _, rfl, Nat.zero_le _, rfl, RW.nil _ _, Below.refl _ _⟩
  case round =>
    obtain ⟨k, vz, rfl, hk, rfl, hrw, hb⟩ := hrel
    by_cases hlt : k < G.length
    · obtain ⟨x, hx⟩ : ∃ x, G[k]? = some x := ⟨G[k], List.getElem?_eq_getElem hlt⟩
      have hxG := List.mem_of_getElem? hx
      have hxl := HIN.out x hxG
      have hxo := HOK.out x hxl
      obtain ⟨g, rfl, hgR, hgw, hcl⟩ : ∃ g, p = some ⟨g, 0, none⟩ ∧ w1.heap.size ≤ g ∧ g < w2.heap.size ∧ ∀ i x, G[i]? = some x → ∀ j u, x.L[j]? = some u → w2.cell? ⟨g, i * 3 + j, none⟩ = some u := by
        rcases HGS.out with ⟨e, -⟩ | ⟨g, c', hv, h1, h2, h3⟩
        · rw [e] at hlt; exact absurd hlt (Nat.not_lt_zero _)
        · injection hv with e1; exact ⟨g, e1, h1, h2, h3⟩
      obtain ⟨q, r, hps⟩ : ∃ q r, x.ps = q :: r := by
        cases h : x.ps with
        | nil => exact absurd h (HNE.out x hxl)
        | cons q r => exact ⟨q, r, rfl⟩
      obtain ⟨pg, pc', cur, hxv, hpg, hcur, -⟩ := hxo.row.real (by rw [hps]; simp)
      have hrow := hxo.row
      rw [hxv] at hrow
      have hq : w2.rangeAt pg 0 [.int .i64 q.f, .int .i64 q.t, .int .i64 q.tl, .int .i64 q.pr, .int .i64 q.id, .int .i64 q.fr, .bool q.mo, .bool q.dn, .string q.op, .string q.da] := fun j u hu => by
        have := hrow.cells (i := 0) (p := q) (by rw [hps]; rfl) j u hu
        rwa [Nat.zero_mul] at this
      have y0 := later hb (hcl k x hx 0 _ rfl)
      have y1 := later hb (hcl k x hx 1 _ rfl)
      have y2 := later hb (hcl k x hx 2 _ rfl)
      rw [hxv, hps] at y2
      rw [Nat.add_zero] at y0
      have hq' : wr.rangeAt pg 0 [.int .i64 q.f, .int .i64 q.t, .int .i64 q.tl, .int .i64 q.pr, .int .i64 q.id, .int .i64 q.fr, .bool q.mo, .bool q.dn, .string q.op, .string q.da] := fun j u hu => later hb (hq j u hu)
      have hk1 : (k : Int) < (G.length : Int) := by omega
      have hk3 : (0 : Int) ≤ (k : Int) := by omega
      have HST : Hid (lateL (G.take (k + 1)) = lateL (G.take k) ++ (if q.fr = 0 then [q] else [])) := by
        show _ = _
        rw [takeL_snoc hx]; exact late_snoc _ x q r hps
      have hll : (lateL (G.take k)).length < 1000000 := by have := late_len (G.take k); rw [List.length_take] at this; omega
      generalize x.at_ = xat at *
      generalize x.tu = xtu at *
      obtain ⟨nr, hnr⟩ : ∃ nr, nr = r.length := ⟨_, rfl⟩
      have y2' : wr.cell? ⟨g, k * 3 + 2, none⟩ = some (.slice (some ⟨pg, 0, none⟩) (nr + 1) pc') := by rw [hnr]; exact y2
      clear hcl hq hrow hxv hcur hps hx hxG hxl hxo y2 hpg hnr
      go_upto_region 6 with (first
        | (refine wpList_store_at rfl 61 _ _ rfl _ wr.heap.size #[.int .i64 0, .int .i64 0, .slice none 0 0] #[.int .i64 xat, .int .i64 xtu, .slice (some ⟨pg, 0, none⟩) (nr + 1) pc'] rfl rfl (At.box wr #[.int .i64 0, .int .i64 0, .slice none 0 0] 61) rfl infoX (by simp [Value.oneCell']) ?_; intro w3 hX3 ht3)
        | go_in)
      have q3 : Below wr.heap.size wr w3 := (bel1 wr (.cells #[.int .i64 0, .int .i64 0, .slice none 0 0] 61)).trans (below_turn ht3 (Nat.le_refl _) (bel1 wr _).size)
      have hq3 : w3.rangeAt pg 0 [.int .i64 q.f, .int .i64 q.t, .int .i64 q.tl, .int .i64 q.pr, .int .i64 q.id, .int .i64 q.fr, .bool q.mo, .bool q.dn, .string q.op, .string q.da] := fun j u hu => later q3 (hq' j u hu)
      have hrw3 := hrw.later q3
      have hb3 := bt hb q3
      have x2 := (hX3.2 2 _ rfl).1
      clear ht3 q3 hq' hrw hb y0 y1 y2'
      go_upto_region 7 with (first
        | (refine wpList_load_mid rfl 32 _ rfl pg 0 (by first | rfl | simp) _ _ hq3 Try.underlying32 rfl (by kernel_rfl) ?_)
        | (refine wpList_store_at rfl 32 _ _ rfl _ w3.heap.size #[.int .i64 0, .int .i64 0, .int .i64 0, .int .i64 0, .int .i64 0, .int .i64 0, .bool false, .bool false, .string ⟨#[]⟩, .string ⟨#[]⟩] #[.int .i64 q.f, .int .i64 q.t, .int .i64 q.tl, .int .i64 q.pr, .int .i64 q.id, .int .i64 q.fr, .bool q.mo, .bool q.dn, .string q.op, .string q.da] rfl rfl (At.box w3 #[.int .i64 0, .int .i64 0, .int .i64 0, .int .i64 0, .int .i64 0, .int .i64 0, .bool false, .bool false, .string ⟨#[]⟩, .string ⟨#[]⟩] 32) rfl (by kernel_rfl) (by simp [Value.oneCell']) ?_; intro w4 hQ4 ht4)
        | go_in)
      have q4 : Below w3.heap.size w3 w4 := (bel1 w3 (.cells #[.int .i64 0, .int .i64 0, .int .i64 0, .int .i64 0, .int .i64 0, .int .i64 0, .bool false, .bool false, .string ⟨#[]⟩, .string ⟨#[]⟩] 32)).trans (below_turn ht4 (Nat.le_refl _) (bel1 w3 _).size)
      have hrw4 := hrw3.later q4
      have hb4 := bt hb3 q4
      have x5 := (hQ4.2 5 _ rfl).1
      clear ht4 q4 hq3 hrw3 hb3 x2 hX3
      by_cases hfr : q.fr = 0
      · have HFR : Hid (q.fr = 0) := hfr
        have hfb : (q.fr == 0) = true := by simp [hfr]
        clear hfr
        have hrA := hrw4.later (bel1 w4 (.cells #[.int .i64 q.f, .int .i64 q.t, .int .i64 q.tl, .int .i64 q.pr, .int .i64 q.id, .int .i64 q.fr, .bool q.mo, .bool q.dn, .string q.op, .string q.da] 32))
        have hRl : w2.heap.size ≤ (w4.alloc (.cells #[.int .i64 q.f, .int .i64 q.t, .int .i64 q.tl, .int .i64 q.pr, .int .i64 q.id, .int .i64 q.fr, .bool q.mo, .bool q.dn, .string q.op, .string q.da] 32)).heap.size := by have := (bel1 w4 (.cells #[.int .i64 q.f, .int .i64 q.t, .int .i64 q.tl, .int .i64 q.pr, .int .i64 q.id, .int .i64 q.fr, .bool q.mo, .bool q.dn, .string q.op, .string q.da] 32)).size; have := hb4.size; omega
        have HNW : Hid (∀ j u, q.L[j]? = some u → (w4.alloc (.cells #[.int .i64 q.f, .int .i64 q.t, .int .i64 q.tl, .int .i64 q.pr, .int .i64 q.id, .int .i64 q.fr, .bool q.mo, .bool q.dn, .string q.op, .string q.da] 32)).cell? ⟨w4.heap.size, j, none⟩ = some u) := fun j u hu => ((At.box w4 #[.int .i64 q.f, .int .i64 q.t, .int .i64 q.tl, .int .i64 q.pr, .int .i64 q.id, .int .i64 q.fr, .bool q.mo, .bool q.dn, .string q.op, .string q.da] 32).2 j u (by rw [List.getElem?_toArray]; exact hu)).1
        go_upto_region 8 with fail
        go_wp2_with (first
          | (refine wpList_load_at rfl 32 _ rfl _ w3.heap.size #[.int .i64 q.f, .int .i64 q.t, .int .i64 q.tl, .int .i64 q.pr, .int .i64 q.id, .int .i64 q.fr, .bool q.mo, .bool q.dn, .string q.op, .string q.da] _ rfl hQ4 Try.underlying32 (by kernel_rfl) ?_)
          | (refine wpList_bsliceP2 rfl _ rfl q #[.int .i64 q.f, .int .i64 q.t, .int .i64 q.tl, .int .i64 q.pr, .int .i64 q.id, .int .i64 q.fr, .bool q.mo, .bool q.dn, .string q.op, .string q.da] rfl rfl ?_)
          | (at_builtin; refine wpList_appendP2 rfl _ _ rfl w2.heap.size u4 (lateL (G.take k)) q w4.heap.size 1 rfl hrA rfl HNW.out hRl hll ?_; intro vg' w6 hr6 ht6 hv6))
        have hb6 : Below w2.heap.size w2 w6 := (bt hb4 (bel1 w4 (.cells #[.int .i64 q.f, .int .i64 q.t, .int .i64 q.tl, .int .i64 q.pr, .int .i64 q.id, .int .i64 q.fr, .bool q.mo, .bool q.dn, .string q.op, .string q.da] 32))).trans (ht6.below hRl (fun j hj e => by have := hrA.ge j e; omega))
        have HR6 : Hid (RW w6 w2.heap.size vg' (lateL (G.take (k + 1)))) := by
          show RW _ _ _ _
          rw [HST.out, if_pos HFR.out]; exact hr6
        clear hr6 ht6 hv6 hrA hrw4 hQ4 x5 HNW
        go_wp2
        go_roundw
        case rel => exact ⟨k + 1, vg', rfl, by omega, by first | rfl | simp, HR6.out, hb6⟩
        case measure => simp [intOf]; omega
      · have hfb : (q.fr == 0) = false := by simp [hfr]
        have HR6 : Hid (RW w4 w2.heap.size u4 (lateL (G.take (k + 1)))) := by
          show RW _ _ _ _
          rw [HST.out, if_neg hfr, List.append_nil]; exact hrw4
        clear hrw4 hQ4
        go_wp2
        go_roundw
        case rel => exact ⟨k + 1, _, rfl, by omega, by first | rfl | simp, HR6.out, hb4⟩
        case measure => simp [intOf]; omega
    · have hkg : k = G.length := by omega
      have hk1 : ¬ (k : Int) < (G.length : Int) := by omega
      have hrw' := hrw
      rw [hkg, List.take_length, HG.out] at hrw'
      have HR : Hid (RW wr w2.heap.size u4 (lateL (l.filter (old now pa)))) := hrw'
      clear hrw hrw' hkg
      go_wp2
      go_ret2
      exact ⟨_, rfl, HF2.out.1.later hb, HR.out.low (by omega), HF2.out.2.later hb⟩
end Go.Proofs.Ytcjhniehbafhpaa
