/- overdue: what took too long is let go, in the order in which it began. -/
import Derived.Test.YtcjhniehbafhpaaHe
import Derived.Test.YtcjhniehbafhpaaHn
import Derived.Deep.QuietTactic
import Derived.BigQuiet
namespace Go.Proofs.Ytcjhniehbafhpaa
open Go.RowKit Go.Maps
set_option maxRecDepth 100000
set_option linter.unusedVariables false
set_option linter.unusedSimpArgs false

theorem sort_same {l : List Pile} (hso : l.Pairwise (fun x y => x.tu < y.tu)) (htu : ∀ x ∈ l, 0 ≤ x.tu ∧ x.tu < 1099511627776) (hv : ∀ x ∈ l, ∃ a n c, x.v = .slice a n c) {d : List Gn} (hp : d.Perm (l.map toG)) (hs : d.Pairwise (fun x y => x.tu.val ≤ y.tu.val)) : d = l.map toG := by
  refine List.Perm.eq_of_pairwise (le := fun x y : Gn => x.tu.val ≤ y.tu.val) ?_ hs ?_ hp
  · intro a b ha hb h1 h2
    have hal := hp.mem_iff.1 ha
    obtain ⟨x, hx, rfl⟩ := List.mem_map.1 hal
    obtain ⟨y, hy, rfl⟩ := List.mem_map.1 hb
    obtain ⟨a1, n1, c1, v1⟩ := hv x hx
    obtain ⟨a2, n2, c2, v2⟩ := hv y hy
    have e1 := (toG_L (htu x hx).1 (htu x hx).2 v1).2
    have e2 := (toG_L (htu y hy).1 (htu y hy).2 v2).2
    have e3 : x.tu = y.tu := by omega
    have : x = y := by
      have hxy : ∀ {l : List Pile}, l.Pairwise (fun x y => x.tu < y.tu) → ∀ {x y : Pile}, x ∈ l → y ∈ l → x.tu = y.tu → x = y := by
        intro l
        induction l with
        | nil => intro _ x y hx; cases hx
        | cons z r ih =>
          intro hp x y hx hy e
          rw [List.pairwise_cons] at hp
          rcases List.mem_cons.1 hx with h1 | h1
          · rcases List.mem_cons.1 hy with h2 | h2
            · rw [h1, h2]
            · have := hp.1 y h2; rw [h1] at e; omega
          · rcases List.mem_cons.1 hy with h2 | h2
            · have := hp.1 x h1; rw [h2] at e; omega
            · exact ih hp.2 h1 h2 e
      exact hxy hso hx hy e3
    rw [this]
  · rw [List.pairwise_map]
    refine hso.imp_of_mem (fun {x y} hx hy h => ?_)
    obtain ⟨a1, n1, c1, v1⟩ := hv x hx
    obtain ⟨a2, n2, c2, v2⟩ := hv y hy
    have e1 := (toG_L (htu x hx).1 (htu x hx).2 v1).2
    have e2 := (toG_L (htu y hy).1 (htu y hy).2 v2).2
    omega
/-- What overdue leaves. -/
def OD (w w' : World) (R B M : Nat) (ro pa la tu : Int) (l : List Pile) (v : Value) : Prop := BX w' R B M ro pa la tu (l.filter fun x => !old la pa x) ∧ GS w' w.heap.size v (l.filter (old la pa)) ∧ (∀ x ∈ l, x.Ok w' R) ∧ Turn (fun k => k = M) w w'
theorem bx_kept {w w' : World} {R B M : Nat} {ro pa la tu : Int} {l : List Pile} (h : BX w R B M ro pa la tu l) (ht : Turn (fun k => k = M) w w') {n : Nat} {es : List (Lit × DataW Value)} (hes : es.Perm ((l.filter fun x => !old la pa x).map fun x => enD x.en)) (ho : w'.ownsMap Try.prog 77 hE M n (.map es)) : BX w' R B M ro pa la tu (l.filter fun x => !old la pa x) ∧ ∀ x ∈ l, x.Ok w' R := by
  have hok : ∀ x ∈ l, x.Ok w' R := fun x hx => (h.ok x hx).turn ht (fun k hk e => by have := (h.ok x hx).row.ge k hk; have := h.mR; omega)
  refine ⟨⟨h.box.turn ht h.ne, ⟨?_, ?_, es, ?_, ?_⟩, fun x hx => hok x (List.mem_filter.1 hx).1, h.far.filter _, h.bR, h.mR, Nat.le_trans h.rw' ht.size, h.ne⟩, hok⟩
  · intro e he
    obtain ⟨x, hx, rfl⟩ := List.mem_map.1 he
    exact h.map.1 _ (List.mem_map_of_mem (List.mem_filter.1 hx).1)
  · have := h.map.2.1
    exact List.Pairwise.sublist ((List.filter_sublist (l := l)).map Pile.en |>.map _) this
  · rw [List.map_map]; exact hes
  · have h1 := own_len ho
    rw [hes.length_eq, List.length_map] at h1
    rw [List.length_map]
    exact h1
set_option maxHeartbeats 8000000 in
theorem overdue_any {w : World} {R B M : Nat} {ro pa la tu : Int} {l : List Pile} (h : BX w R B M ro pa la tu l) (hp0 : 1 ≤ pa) (hp1 : pa ≤ 1048576) (hl0 : 0 ≤ la) (hl1 : la ≤ 1099511627776) (hat : ∀ x ∈ l, 0 ≤ x.at_ ∧ x.at_ ≤ la) (htu : ∀ x ∈ l, 0 ≤ x.tu ∧ x.tu < 1099511627776) (hso : l.Pairwise (fun x y => x.tu < y.tu)) (hlen : l.length ≤ 64) :
    Calls Try.prog 19 #[.pointer (some ⟨B, 0, none⟩)] w fun e w' => ∃ v, e = .returned v ∧ OD w w' R B M ro pa la tu l v := by
  have hw : ∀ x ∈ l, x.m.wf := fun x hx => h.map.1 x.en (List.mem_map_of_mem hx)
  have hn : (l.map (·.m)).Nodup := by have := h.map.2.1; rw [List.map_map] at this; exact this
  have hsl : ∀ x ∈ l, ∃ a n c, x.v = .slice a n c := fun x hx => by obtain ⟨a, c, e⟩ := (h.ok x hx).row.shape; exact ⟨a, _, c, e⟩
  obtain ⟨es0, hpe, ho⟩ := h.map.2.2
  have hall : ∀ x ∈ l, Maps.has (.map es0) x.m.lit = true := fun x hx => by
    rw [has_iff, es_find h.map.1 h.map.2.1 hpe (hw x hx), glk_of h.map.2.1 (v := x.en.2) (List.mem_map_of_mem hx)]
    rfl
  rw [List.map_map] at hpe
  rw [List.length_map] at ho
  have hbM : B ≠ M := h.ne
  have hbw := h.box.1
  have hmw := h.map.lt
  have hMR := h.mR
  have hRw := h.rw'
  have HX : Hid (BX w R B M ro pa la tu l) := h
  have HW : Hid (∀ x ∈ l, x.m.wf) := hw
  have HNo : Hid ((l.map (·.m)).Nodup) := hn
  have HSL : Hid (∀ x ∈ l, ∃ a n c, x.v = .slice a n c) := hsl
  have HAT : Hid (∀ x ∈ l, 0 ≤ x.at_ ∧ x.at_ ≤ la) := hat
  have HTU : Hid (∀ x ∈ l, 0 ≤ x.tu ∧ x.tu < 1099511627776) := htu
  have HSO : Hid (l.Pairwise (fun x y => x.tu < y.tu)) := hso
  have HS0 : Hid (l.filter (stG la pa (Maps.has (.map es0))) = l ∧ l.filter (goG la pa (Maps.has (.map es0))) = []) := st_start hall
  have HP0 : Hid (es0.Perm (l.map (enD ∘ Pile.en))) := hpe
  have c4 := (h.box.2 4 _ rfl).1
  clear h hw hn hsl hat htu hso hall hpe
  go_enter Try.func19, Try.ntmps19
  go_wp2_with (first
    | (at_range; refine wpList_range_own _ rfl _ 54 rfl 77 61 lawM Try.underlying54 _ M l.length _ rfl ho ?_; intro w0 hrg0 hgr0 hs0)
    | go_in)
  go_frame
  go_loopw [3] (fun vg wr => ∃ (left : Lit → Bool) (cnt : Nat) (es : List (Lit × DataW Value)) (gs : List Pile) (vz : Value), vg = vz ∧ wr.ranges Try.prog 77 hE M w.heap.size l.length (.map es) left cnt ∧ es.Perm ((l.filter (stG la pa left)).map fun x => enD x.en) ∧ gs.Perm (l.filter (goG la pa left)) ∧ GR wr (w.heap.size + 1) vz gs ∧ Turn (fun k => k = M) w wr)
    (fun _ wr => wr.rangeLeft M w.heap.size)
  case atStart => exact ⟨_, _, es0, [], _, rfl, hrg0, by rw [HS0.out.1]; exact HP0.out, by rw [HS0.out.2], GR.nil _ _, Turn.of_grown hgr0 (fun j h => by cases h)⟩
  case round =>
    clear HS0 HP0 ho
    obtain ⟨left, cnt, es, gs, vz, rfl, hrg, hes, hgs, hGR, ht⟩ := hrel
    have hsz := ht.size
    have hrl := hrg.lt
    go_wp2_with (first
      | (at_next; refine wpList_next_g rfl _ rfl M w.heap.size l.length (l.filter (stG la pa left)) es (fun x hx => HW.out x (List.mem_filter.1 hx).1) hes left cnt rfl hrg ?_ ?_)
      | go_in)
    · intro _ hl9
      have hbk := bx_kept HX.out ht (by rw [← (st_end (la := la) (pa := pa) (l := l) hl9).1]; exact hes) hrg.owns
      have hgp : gs.Perm (l.filter (old la pa)) := by rw [← (st_end (la := la) (pa := pa) (l := l) hl9).2]; exact hgs
      have HBK : Hid (BX wr R B M ro pa la tu (l.filter fun x => !old la pa x) ∧ ∀ x ∈ l, x.Ok wr R) := hbk
      have HGP : Hid (gs.Perm (l.filter (old la pa))) := hgp
      have hgin : ∀ x ∈ gs, x ∈ l := fun x hx => (List.mem_filter.1 (hgp.mem_iff.1 hx)).1
      have hgl : gs.length ≤ 64 := by rw [hgp.length_eq]; exact Nat.le_trans (List.length_filter_le _ _) hlen
      have HOK : Hid (∀ x ∈ gs, 0 ≤ x.tu ∧ x.tu < 1099511627776 ∧ ∃ a n c, x.v = .slice a n c) := fun x hx => ⟨(HTU.out x (hgin x hx)).1, (HTU.out x (hgin x hx)).2, HSL.out x (hgin x hx)⟩
      clear hbk hgp hgin hes hgs hrg hl9
      rcases Nat.eq_zero_or_pos gs.length with hg0 | hg0
      · have hgn := List.length_eq_zero_iff.1 hg0
        subst hgn
        obtain ⟨p, c, hu3⟩ := hGR.shape
        subst hu3
        go_wp2_with fail
        refine (sort_none p c wr).mono ?_
        rintro e w2 ⟨rfl, rfl⟩
        go_wp2
        go_ret
        exact ⟨_, rfl, HBK.out.1, Or.inl ⟨(List.Perm.nil_eq HGP.out).symm, p, c, rfl⟩, HBK.out.2, ht⟩
      · obtain ⟨p, c, hu3⟩ := hGR.shape
        subst hu3
        obtain ⟨g, hpg⟩ : ∃ g, p = some ⟨g, 0, none⟩ := by
          rcases hGR.2 with ⟨e, h0⟩ | ⟨g, cap, cur, e, -⟩
          · omega
          · injection e with e1; exact ⟨g, e1⟩
        subst hpg
        obtain ⟨hH, hgR, hglt⟩ := holds_gr hGR HOK.out
        have hds : (gs.map toG).toArray.size = gs.length := by simp
        have hcon := sort_any g c (gs.map toG).toArray wr hH hglt (by rw [hds]; omega)
        rw [hds] at hcon
        clear hH hGR
        go_wp2_with fail
        refine hcon.mono ?_
        rintro e w2 ⟨rfl, d', hper, hsor, hH2, ht2⟩
        have hd' : d'.toList = (l.filter (old la pa)).map toG := sort_same (HSO.out.filter _) (fun x hx => HTU.out x (List.mem_filter.1 hx).1) (fun x hx => HSL.out x (List.mem_filter.1 hx).1) (hper.trans (HGP.out.map toG)) hsor
        have hgs2 := gs_holds (R := w.heap.size) (c := c) hH2 hd' (fun x hx => ⟨(HTU.out x (List.mem_filter.1 hx).1).1, (HTU.out x (List.mem_filter.1 hx).1).2, HSL.out x (List.mem_filter.1 hx).1⟩) (by omega) (by have := ht2.size; omega)
        rw [← HGP.out.length_eq] at hgs2
        have HG2 : Hid (GS w2 w.heap.size (.slice (some ⟨g, 0, none⟩) gs.length c) (l.filter (old la pa))) := hgs2
        have hb2 := HBK.out.1.turn ht2 (by have := HX.out.bR; omega) (by omega) (fun x hx k hk e => by have := (HX.out.ok x (List.mem_filter.1 hx).1).row.lt k hk; omega)
        have hok2 : ∀ x ∈ l, x.Ok w2 R := fun x hx => (HBK.out.2 x hx).turn ht2 (fun k hk e => by have := (HX.out.ok x hx).row.lt k hk; omega)
        have htt := ht.step ht2 (fun k e => Or.inr (by omega))
        have HF : Hid (BX w2 R B M ro pa la tu (l.filter fun x => !old la pa x) ∧ (∀ x ∈ l, x.Ok w2 R) ∧ Turn (fun k => k = M) w w2) := ⟨hb2, hok2, htt⟩
        clear hcon hH2 hd' hgs2 hb2 hok2 htt hper hsor
        go_wp2
        go_ret
        exact ⟨_, rfl, HF.out.1, HG2.out, HF.out.2.1, HF.out.2.2⟩
    · intro y w1 cnt1 hyl hst hly hrg1 hlt hgr1 hs1 hen
      clear hst
      have hw1 : w.heap.size + 1 ≤ w1.heap.size := by omega
      have hw2 : wr.heap.size ≤ w1.heap.size := by omega
      have hw3 : w1.heap.size ≤ wr.heap.size := by omega
      clear hs1
      obtain ⟨va0, n0, vc, hv0⟩ := HSL.out y hyl
      have hwm := HW.out y hyl
      obtain ⟨hat0, hat1⟩ := HAT.out y hyl
      have hro := (HX.out.ok y hyl).row
      obtain ⟨m, at_, tx, v, ps⟩ := y
      simp only at hv0 hwm hat0 hat1 hro hly hrg1 hen
      obtain ⟨va, vc, hv1⟩ := hro.shape
      subst hv1
      simp only
      clear hv0 hro va0 n0
      have HYL : Hid ((⟨m, at_, tx, .slice va ps.length vc, ps⟩ : Pile) ∈ l) := hyl
      have HLY : Hid (left m.lit = true) := hly
      have ht1 : Turn (fun k => k = M) w w1 := ht.and hgr1 (fun j h => by cases h; exact Or.inr (Nat.le_refl _))
      have hGR1 := hGR.turn (Turn.of_grown (S := fun k => k = w.heap.size) hgr1 (fun j hj => by cases hj; exact Or.inl rfl)) (fun k hk e => by have := hGR.ge k hk; omega)
      have hbx1 := HX.out.box.turn ht1 hbM
      clear hyl hly hGR ht
      have HGK : Hid (∀ k, u3.ownBlock = some k → ¬ (k = w1.heap.size)) := fun k hk e => by have := hGR1.lt k hk; omega
      have hAk := (At.box w1 #[.int .i64 0, .int .i64 0, .int .i64 0, .int .i64 0] 77).later (bel1 (w1.alloc (.cells #[.int .i64 0, .int .i64 0, .int .i64 0, .int .i64 0] 77)) (.cells #[.int .i64 0, .int .i64 0, .slice none 0 0] 61))
      have hAx := At.box2 w1 (.cells #[.int .i64 0, .int .i64 0, .int .i64 0, .int .i64 0] 77) #[.int .i64 0, .int .i64 0, .slice none 0 0] 61
      have qa := bt (bel1 w1 (.cells #[.int .i64 0, .int .i64 0, .int .i64 0, .int .i64 0] 77)) (bel1 (w1.alloc (.cells #[.int .i64 0, .int .i64 0, .int .i64 0, .int .i64 0] 77)) (.cells #[.int .i64 0, .int .i64 0, .slice none 0 0] 61))
      go_upto_region 5 with (first
        | (refine wpList_store_at rfl 77 _ _ rfl _ w1.heap.size #[.int .i64 0, .int .i64 0, .int .i64 0, .int .i64 0] #[.int .i64 m.f, .int .i64 m.t, .int .i64 m.pr, .int .i64 m.id] rfl rfl hAk rfl infoM (by simp [Value.oneCell']) ?_; intro w2 hK2 ht2; have hAx2 := hAx.turn ht2 (by omega))
        | (refine wpList_store_at rfl 61 _ _ rfl _ (w1.heap.size + 1) #[.int .i64 0, .int .i64 0, .slice none 0 0] #[.int .i64 at_, .int .i64 tx, .slice va ps.length vc] rfl rfl hAx2 rfl infoX (by simp [Value.oneCell']) ?_; intro w3 hX3 ht3)
        | go_in)
      have hK3 := hK2.turn ht3 (by omega)
      have q3 : Below w1.heap.size w1 w3 := (qa.trans (below_turn ht2 (Nat.le_refl _) qa.size)).trans (below_turn ht3 (Nat.le_succ _) (Nat.le_trans qa.size ht2.size))
      have hbx3 := hbx1.later q3
      have hGR3 := hGR1.later q3
      have ht3' := ht1.later q3
      have hrg3 := rg_turn hrg1 (Turn.of_below (S := fun _ => False) q3) (fun h => h) (fun h => h)
      have hs3 := q3.size
      clear hAk hAx hAx2 qa ht2 ht3 hK2 hbx1 hGR1 ht1 hrg1 q3
      obtain ⟨b1, -⟩ := hbx3.2 1 _ rfl
      obtain ⟨b2, -⟩ := hbx3.2 2 _ rfl
      have x0 := (hX3.2 0 _ rfl).1
      have hwr : IntKind.i64.wrap (la - at_) = la - at_ := by rw [IntKind.wrap_i64]; omega
      go_quiet (fail)
      have qd : Below w3.heap.size w3 (w3.drewN nq) := below_drewN (Below.refl _ _) nq
      replace hbx3 := hbx3.later qd
      replace hGR3 := hGR3.later qd
      replace ht3' := ht3'.later qd
      replace hrg3 := rg_turn hrg3 (Turn.of_below (S := fun _ => False) qd) (fun h => h) (fun h => h)
      replace hK3 := hK3.later qd
      replace hX3 := hX3.later qd
      have hs4 := qd.size
      clear qd b1 b2 x0
      by_cases hq : pa ≤ la - at_
      · have hold : old la pa ⟨m, at_, tx, .slice va ps.length vc, ps⟩ = true := decide_eq_true hq
        have HOLD : Hid (old la pa ⟨m, at_, tx, .slice va ps.length vc, ps⟩ = true) := hold
        clear hold
        go_upto_region 6 with fail
        generalize w3.drewN nq = w4 at *
        have hGA := hGR3.later (bel1 w4 (.cells #[.int .i64 at_, .int .i64 tx, .slice va ps.length vc] 61))
        have hRl : w.heap.size + 1 ≤ (w4.alloc (.cells #[.int .i64 at_, .int .i64 tx, .slice va ps.length vc] 61)).heap.size := by have := (bel1 w4 (.cells #[.int .i64 at_, .int .i64 tx, .slice va ps.length vc] 61)).size; omega
        have hgl : gs.length < 1000000 := by rw [hgs.length_eq]; have := List.length_filter_le (goG la pa left) l; omega
        have HNW : Hid (∀ j u, (⟨m, at_, tx, .slice va ps.length vc, ps⟩ : Pile).L[j]? = some u → (w4.alloc (.cells #[.int .i64 at_, .int .i64 tx, .slice va ps.length vc] 61)).cell? ⟨w4.heap.size, j, none⟩ = some u) := fun j u hu => ((At.box w4 #[.int .i64 at_, .int .i64 tx, .slice va ps.length vc] 61).2 j u (by rw [List.getElem?_toArray]; exact hu)).1
        go_upto_region 7 with (first
          | (refine wpList_load_at rfl 61 _ rfl _ (w1.heap.size + 1) #[.int .i64 at_, .int .i64 tx, .slice va ps.length vc] _ rfl hX3 Try.underlying61 infoX ?_)
          | (refine wpList_bsliceG rfl _ rfl at_ tx va ps.length vc rfl ?_)
          | (at_builtin; refine wpList_appendG rfl _ _ rfl (w.heap.size + 1) u3 gs ⟨m, at_, tx, .slice va ps.length vc, ps⟩ w4.heap.size 1 rfl hGA rfl rfl HNW.out hRl hgl ?_; intro vg' w6 hG6 ht6)
          | go_in)
        have q5 := bel1 w4 (.cells #[.int .i64 at_, .int .i64 tx, .slice va ps.length vc] 61)
        have hbx6 := (hbx3.later q5).turn ht6 (fun e => by have := hGA.ge _ e; omega)
        have hK6 := (hK3.later q5).turn ht6 (fun e => HGK.out _ e rfl)
        have hrg6 := rg_turn (rg_turn hrg3 (Turn.of_below (S := fun _ => False) q5) (fun h => h) (fun h => h)) ht6 (fun e => by have := hGA.ge _ e; omega) (fun e => by have := hGA.ge _ e; omega)
        have ht6' : Turn (fun k => k = M) w w6 := (ht3'.later q5).step ht6 (fun k e => Or.inr (by have := hGA.ge _ e; omega))
        obtain ⟨W3, cnt3, hr3, hrg7, hle3, hmt⟩ := World.ranges.drop (w := w6.drew) hrg6 lawM Try.underlying54 (m.key hwm) 0
        have hr3' : (Builtin.delete_ #[54, 77] 0 #[.map (some M), .agg #[.int .i64 m.f, .int .i64 m.t, .int .i64 m.pr, .int .i64 m.id]]).run Try.prog w6.drew = .ok (.tuple #[]) W3 := hr3
        have ht7 : Turn (fun k => k = M) w6 W3 := (Turn.of_grown hmt.grown (fun j hj => by cases hj; exact Or.inl rfl) : Turn (fun k => k = M) w6.drew W3).undrew
        have hG7 := hG6.turn ht7 (fun k hk e => by have := hG6.ge k hk; omega)
        have ht7' := ht6'.trans ht7
        have hlf : (fun x => cutL left m x && !x.sameKey m.lit) = cutL left m := by unfold cutL; exact Maps.strike_twice _ _
        rw [hlf] at hrg7
        have HRG : Hid (W3.ranges Try.prog 77 hE M w.heap.size l.length (.map (es.filter fun p => !p.1.sameKey m.lit)) (cutL left m) cnt3) := hrg7
        have HES : Hid ((es.filter fun p => !p.1.sameKey m.lit).Perm ((l.filter (stG la pa (cutL left m))).map fun x => enD x.en)) := (hes.filter _).trans (by rw [st_gone (y := ⟨m, at_, tx, .slice va ps.length vc, ps⟩) HW.out HNo.out HYL.out HOLD.out])
        have HGS : Hid ((gs ++ [(⟨m, at_, tx, .slice va ps.length vc, ps⟩ : Pile)]).Perm (l.filter (goG la pa (cutL left m)))) := go_gone (y := ⟨m, at_, tx, .slice va ps.length vc, ps⟩) HW.out HNo.out HYL.out HOLD.out HLY.out hgs
        have HGR : Hid (GR W3 (w.heap.size + 1) vg' (gs ++ [(⟨m, at_, tx, .slice va ps.length vc, ps⟩ : Pile)])) := hG7
        have HT : Hid (Turn (fun k => k = M) w W3) := ht7'
        have HM1 : Hid (W3.rangeLeft M w.heap.size < wr.rangeLeft M w.heap.size) := by
          show _ < _
          rw [hrg7.left_eq, hrg.left_eq]; omega
        have g4 : w6.cell? ⟨B, 4, none⟩ = some (.map (some M)) := (hbx6.2 4 _ rfl).1
        have m0 : w6.cell? ⟨w1.heap.size, 0, none⟩ = some (.int .i64 m.f) := (hK6.2 0 _ rfl).1
        have m1 : w6.cell? ⟨w1.heap.size, 1, none⟩ = some (.int .i64 m.t) := (hK6.2 1 _ rfl).1
        have m2 : w6.cell? ⟨w1.heap.size, 2, none⟩ = some (.int .i64 m.pr) := (hK6.2 2 _ rfl).1
        have m3 : w6.cell? ⟨w1.heap.size, 3, none⟩ = some (.int .i64 m.id) := (hK6.2 3 _ rfl).1
        clear hr3 hrg7 hmt ht7 hG7 ht7' hlf hG6 ht6 hbx6 hK6 hrg6 ht6' hGA q5 hrg3 hGR3 hbx3 hX3 hK3 ht3' hes hgs hrg HNW
        go_region
        go_wp2
        go_roundw
        case rel => exact ⟨_, _, _, _, vg', rfl, HRG.out, HES.out, HGS.out, HGR.out, HT.out⟩
        case measure => exact HM1.out
      · have hold : old la pa ⟨m, at_, tx, .slice va ps.length vc, ps⟩ = false := decide_eq_false hq
        have hkp := st_keep (left := left) (y := ⟨m, at_, tx, .slice va ps.length vc, ps⟩) HW.out HNo.out HYL.out hold
        have HES : Hid (es.Perm ((l.filter (stG la pa (cutL left m))).map fun x => enD x.en)) := by show List.Perm _ _; rw [hkp.1]; exact hes
        have HGS : Hid (gs.Perm (l.filter (goG la pa (cutL left m)))) := by show List.Perm _ _; rw [hkp.2]; exact hgs
        have HM1 : Hid ((w3.drewN nq).rangeLeft M w.heap.size < wr.rangeLeft M w.heap.size) := by
          show _ < _
          rw [hrg3.left_eq, hrg.left_eq]; exact hlt
        have HRG : Hid ((w3.drewN nq).ranges Try.prog 77 hE M w.heap.size l.length (.map es) (cutL left m) cnt1) := hrg3
        have hq2 : la - at_ < pa := by omega
        have hq3 : decide (pa ≤ la - at_) = false := decide_eq_false hq
        clear hold hkp hes hgs hrg hrg3
        go_wp2
        go_roundw
        case rel => exact ⟨_, _, _, _, _, rfl, HRG.out, HES.out, HGS.out, hGR3, ht3'⟩
        case measure => exact HM1.out
end Go.Proofs.Ytcjhniehbafhpaa
