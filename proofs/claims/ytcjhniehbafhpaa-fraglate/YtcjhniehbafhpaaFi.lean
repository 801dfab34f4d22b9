/- Loads and stores of whole structs; Insert in one; with. -/
import Derived.Test.YtcjhniehbafhpaaFe
import Derived.Test.YtcjhniehbafhpaaFf
import Derived.Test.YtcjhniehbafhpaaFh
namespace Go.Proofs.Ytcjhniehbafhpaa
open Go.RowKit Go.Maps
set_option maxRecDepth 100000
set_option linter.unusedVariables false
set_option linter.unusedSimpArgs false

theorem at_there {W : World} {b : Nat} {vs : Array Value} (h : At W b vs) : W.there b 0 vs.size := fun j hj => by
  obtain ⟨c, f⟩ := h.2 j vs[j] (Array.getElem?_eq_getElem hj)
  rw [Nat.zero_add]
  exact ⟨by rw [c]; rfl, f⟩
theorem size_setCells (b : Nat) : ∀ (vs : List Value) (o : Nat) (w : World), (w.setCells b o vs).heap.size = w.heap.size
  | [], _, _ => rfl
  | v :: vs, o, w => by rw [World.setCells, size_setCells b vs (o + 1) _, World.size_setCell]
theorem turn_setCells (b : Nat) : ∀ (vs : List Value) (o : Nat) (w : World), Turn (fun k => k = b) w (w.setCells b o vs)
  | [], _, _ => Turn.refl _
  | v :: vs, o, w => by
    rw [World.setCells]
    exact (turn_set w b o v).trans (turn_setCells b vs (o + 1) _)
theorem at_whole {W : World} {b : Nat} {old vs : Array Value} (h : At W b old) (hs : old.size = vs.size) : At (W.setCells b 0 vs.toList) b vs := by
  refine ⟨by rw [size_setCells]; exact h.1, fun i v hi => ⟨?_, ?_⟩⟩
  · have hr := World.rangeAt_setCells_same W b 0 vs.toList (by rw [show vs.toList.length = old.size by rw [hs]; simp]; exact at_there h)
    have := hr i v (by simpa using hi)
    rwa [Nat.zero_add] at this
  · rw [World.frozen?_setCells]
    have hlt : i < old.size := by rw [hs]; exact (Array.getElem?_eq_some_iff.1 hi).1
    exact (h.2 i old[i] (Array.getElem?_eq_getElem hlt)).2
/-- A struct stored whole. -/
theorem wpList_store_at {ops : Array Oper} {rest : List Oper} {op : Oper} {a : Act} {Q : Exit → Act → World → Prop} (hgd : op.guard = none) (ty : TypeId) (x y : Operand) (ho : op.op = .store ty x y) (w : World) (b : Nat) (old vs : Array Value) (hx : a.eval x = .pointer (some ⟨b, 0, none⟩)) (hy : a.eval y = .agg vs) (hA : At w b old) (hzs : old.size = vs.size) (hi : (Try.prog.info? ty).map (·.size) = some vs.size) (h1 : vs.all (·.oneCell') = true)
    (h : ∀ w', At w' b vs → Turn (fun k => k = b) w w' → wpList Try.prog ops Q rest (a.put op.dst undef) w') : wpList Try.prog ops Q (op :: rest) a w := by
  refine wpList_store_mid hgd ty x y ho b 0 vs hx hy (by rw [← hzs]; exact at_there hA) hi h1 ?_
  exact h _ (at_whole hA hzs) (turn_setCells b _ _ _)
/-- A struct loaded whole. -/
theorem wpList_load_at {ops : Array Oper} {rest : List Oper} {op : Oper} {a : Act} {Q : Exit → Act → World → Prop} (hgd : op.guard = none) (ty : TypeId) (x : Operand) (ho : op.op = .load ty x) (w : World) (b : Nat) (vs : Array Value) (fs : Array Field) (hx : a.eval x = .pointer (some ⟨b, 0, none⟩)) (hA : At w b vs) (hu : Try.prog.underlying ty = some (.struct fs)) (hi : (Try.prog.info? ty).map (·.size) = some vs.size)
    (h : wpList Try.prog ops Q rest (a.put op.dst (.agg vs)) w) : wpList Try.prog ops Q (op :: rest) a w := by
  refine wpList_load_mid hgd ty x ho b 0 hx vs.toList _ (fun j u hu => ?_) hu rfl (by rw [hi]; simp) ?_
  · rw [Nat.zero_add]
    exact (hA.2 j u (by simpa using hu)).1
  · simpa using h
theorem insert_any (ps : List Pk) (p : Pk) (w : World) (v : Value) (R vb i : Nat) (hr : RW w R v ps) (hV : w.heap[vb]? = some (.cells #[.int .i64 p.f, .int .i64 p.t, .int .i64 p.tl, .int .i64 p.pr, .int .i64 p.id, .int .i64 p.fr, .bool p.mo, .bool p.dn, .string p.op, .string p.da] 32 (0, 0))) (hne : ∀ k, v.ownBlock = some k → k ≠ vb) (hR : R ≤ w.heap.size) (hn : ps.length < 1000) (hi : i ≤ ps.length) :
    Calls Try.prog 55 #[v, .int .i64 (i : Int), .slice (some ⟨vb, 0, none⟩) 1 1] w fun e w' => ∃ v', e = .returned v' ∧ RW w' R v' (insL ps i p) ∧ Turn (fun k => v.ownBlock = some k) w w' ∧ (v'.ownBlock = v.ownBlock ∨ v'.ownBlock = some w.heap.size) := by
  rcases Nat.lt_or_ge i ps.length with hlt | hge
  · obtain ⟨g, c, cur, rfl, hg, hb, h1, h2, h3, h4⟩ := hr.real (fun e => by rw [e] at hlt; cases hlt)
    have hgv : vb ≠ g := fun e => hne g (by simp [Value.ownBlock]) e.symm
    by_cases hroom : ps.length + 1 ≤ c
    · refine (insert_room ps p w g c R vb i cur hb h3 h4 h2 hV hgv hn hlt hroom).mono ?_
      rintro e w' ⟨rfl, cur', k1, k2, k3, k4⟩
      refine ⟨_, rfl, ?_, k4.mono (fun k hk => by subst hk; simp [Value.ownBlock]), Or.inl rfl⟩
      have hins : (insL ps i p).length = ps.length + 1 := by unfold insL; rw [List.length_append, List.length_cons, List.length_take, List.length_drop]; omega
      unfold RW
      rw [hins]
      exact ⟨by rw [flatP_len, hins], Or.inr ⟨g, c, cur', rfl, hg, k1, hroom, h2, k2, k3⟩⟩
    · refine (insert_grow ps p w g c R vb i cur hb h3 h4 hV hn hlt h1 (by omega) hR).mono ?_
      rintro e w' ⟨v', rfl, k1, k2, k3⟩
      exact ⟨v', rfl, k1, Turn.of_below k2, Or.inr k3⟩
  · obtain rfl : i = ps.length := by omega
    refine (insert_end ps p w v R vb hr hV hR hn).mono ?_
    rintro e w' ⟨v', rfl, k1, k2, k3⟩
    refine ⟨v', rfl, ?_, k2, k3⟩
    unfold insL
    rw [List.take_length, List.drop_length]
    exact k1
theorem infoX : (Try.prog.info? 61).map (·.size) = some 3 := by kernel_rfl
def WP (ps : List Pk) (p : Pk) (at_ tu : Int) (v : Value) (R : Nat) (w : World) (e : Ending) (w' : World) : Prop := ∃ (v' : Value) (i : Nat), e = .returned (.agg #[.int .i64 at_, .int .i64 tu, v']) ∧ i ≤ ps.length ∧ Cutp ps p.fr i i ∧ RW w' R v' (insL ps i p) ∧ Turn (fun k => v.ownBlock = some k) w w' ∧ (v'.ownBlock = v.ownBlock ∨ ∀ k, v'.ownBlock = some k → w.heap.size ≤ k)
set_option maxHeartbeats 4000000 in
theorem with_any (p : Pk) (ps : List Pk) (at_ tu : Int) (v : Value) (R : Nat) (w : World) (hr : RW w R v ps) (hn : ps.length < 100) (h : p.Fine) (hk : ∀ q ∈ ps, q.Fine) (hs : ps.Pairwise (fun a b => a.fr ≤ b.fr)) (hR : R ≤ w.heap.size) :
    Calls Try.prog 38 #[.agg #[.int .i64 at_, .int .i64 tu, v], .agg #[.int .i64 p.f, .int .i64 p.t, .int .i64 p.tl, .int .i64 p.pr, .int .i64 p.id, .int .i64 p.fr, .bool p.mo, .bool p.dn, .string p.op, .string p.da]] w fun e w' => WP ps p at_ tu v R w e w' := by
  have hX := ((At.box w #[.int .i64 at_, .int .i64 tu, v] 61).later (bel1 _ (.cells #[.int .i64 p.f, .int .i64 p.t, .int .i64 p.tl, .int .i64 p.pr, .int .i64 p.id, .int .i64 p.fr, .bool p.mo, .bool p.dn, .string p.op, .string p.da] 32))).later (bel1 _ (.cells #[.int .i64 0, .int .i64 0, .slice none 0 0] 61))
  have hB := (At.box2 w (.cells #[.int .i64 at_, .int .i64 tu, v] 61) #[.int .i64 p.f, .int .i64 p.t, .int .i64 p.tl, .int .i64 p.pr, .int .i64 p.id, .int .i64 p.fr, .bool p.mo, .bool p.dn, .string p.op, .string p.da] 32).later (bel1 _ (.cells #[.int .i64 0, .int .i64 0, .slice none 0 0] 61))
  have hZ : At (((w.alloc (.cells #[.int .i64 at_, .int .i64 tu, v] 61)).alloc (.cells #[.int .i64 p.f, .int .i64 p.t, .int .i64 p.tl, .int .i64 p.pr, .int .i64 p.id, .int .i64 p.fr, .bool p.mo, .bool p.dn, .string p.op, .string p.da] 32)).alloc (.cells #[.int .i64 0, .int .i64 0, .slice none 0 0] 61)) (w.heap.size + 1 + 1) #[.int .i64 0, .int .i64 0, .slice none 0 0] := by
    have := At.box ((w.alloc (.cells #[.int .i64 at_, .int .i64 tu, v] 61)).alloc (.cells #[.int .i64 p.f, .int .i64 p.t, .int .i64 p.tl, .int .i64 p.pr, .int .i64 p.id, .int .i64 p.fr, .bool p.mo, .bool p.dn, .string p.op, .string p.da] 32)) #[.int .i64 0, .int .i64 0, .slice none 0 0] 61
    rwa [World.size_alloc, World.size_alloc] at this
  have hl := bt (bt (bel1 w (.cells #[.int .i64 at_, .int .i64 tu, v] 61)) (bel1 _ (.cells #[.int .i64 p.f, .int .i64 p.t, .int .i64 p.tl, .int .i64 p.pr, .int .i64 p.id, .int .i64 p.fr, .bool p.mo, .bool p.dn, .string p.op, .string p.da] 32))) (bel1 _ (.cells #[.int .i64 0, .int .i64 0, .slice none 0 0] 61))
  have hr0 := hr.later hl
  have hlt := hr.lt
  clear hr
  go_enter Try.func38, Try.ntmps38
  go_upto_region 1 with fail
  generalize ((w.alloc (.cells #[.int .i64 at_, .int .i64 tu, v] 61)).alloc (.cells #[.int .i64 p.f, .int .i64 p.t, .int .i64 p.tl, .int .i64 p.pr, .int .i64 p.id, .int .i64 p.fr, .bool p.mo, .bool p.dn, .string p.op, .string p.da] 32)).alloc (.cells #[.int .i64 0, .int .i64 0, .slice none 0 0] 61) = W0 at *
  have x2 := (hX.2 2 _ rfl).1
  have p5 := (hB.2 5 _ rfl).1
  go_wp2_with fail
  refine (search_any ps p.fr W0 v R hr0 (by omega) hk h.f0 h.f1 hs).mono ?_
  rintro e w1 ⟨⟨i, b, hi, rfl, hc⟩, l1⟩
  have hs1 : w.heap.size + 2 < w1.heap.size := Nat.lt_of_lt_of_le hZ.1 l1.size
  have HC : Hid (Cutp ps p.fr i i) := hc
  clear hc x2 p5
  replace hX := hX.later l1
  replace hB := hB.later l1
  replace hZ := hZ.later l1
  replace hl := bt hl l1
  have hr1 := hr0.later l1
  clear hr0 l1
  have x2 := (hX.2 2 _ rfl).1
  go_upto_region 2 with fail
  have hq := bel1 w1 (.cells #[.int .i64 p.f, .int .i64 p.t, .int .i64 p.tl, .int .i64 p.pr, .int .i64 p.id, .int .i64 p.fr, .bool p.mo, .bool p.dn, .string p.op, .string p.da] 32)
  have hV : (w1.alloc (.cells #[.int .i64 p.f, .int .i64 p.t, .int .i64 p.tl, .int .i64 p.pr, .int .i64 p.id, .int .i64 p.fr, .bool p.mo, .bool p.dn, .string p.op, .string p.da] 32)).heap[w1.heap.size]? = some (.cells #[.int .i64 p.f, .int .i64 p.t, .int .i64 p.tl, .int .i64 p.pr, .int .i64 p.id, .int .i64 p.fr, .bool p.mo, .bool p.dn, .string p.op, .string p.da] 32 (0, 0)) := heap_alloc_new w1 _
  have hne : ∀ k, v.ownBlock = some k → k ≠ w1.heap.size := fun k hk => by have := hr1.lt k hk; omega
  have hcon := insert_any ps p (w1.alloc (.cells #[.int .i64 p.f, .int .i64 p.t, .int .i64 p.tl, .int .i64 p.pr, .int .i64 p.id, .int .i64 p.fr, .bool p.mo, .bool p.dn, .string p.op, .string p.da] 32)) v R w1.heap.size i (hr1.later hq) hV hne (Nat.le_trans (Nat.le_trans hR hl.size) hq.size) (by omega) hi
  go_wp2_with (first | (refine wpList_load_at rfl 32 _ rfl _ (w.heap.size + 1) #[.int .i64 p.f, .int .i64 p.t, .int .i64 p.tl, .int .i64 p.pr, .int .i64 p.id, .int .i64 p.fr, .bool p.mo, .bool p.dn, .string p.op, .string p.da] _ rfl hB Try.underlying32 (by kernel_rfl) ?_) | fail)
  refine hcon.mono ?_
  rintro e w2 ⟨v', rfl, hr2, ht2, hloc⟩
  obtain ⟨a', c', rfl⟩ := hr2.shape
  generalize hm : (insL ps i p).length = m' at *
  clear hm
  clear hcon hV x2
  have hnX : ¬ (v.ownBlock = some w.heap.size) := fun e => by have := hlt _ e; omega
  have hnZ : ¬ (v.ownBlock = some (w.heap.size + 1 + 1)) := fun e => by have := hlt _ e; omega
  replace hX := (hX.later hq).turn ht2 hnX
  replace hZ := (hZ.later hq).turn ht2 hnZ
  have htt : Turn (fun k => v.ownBlock = some k) w w2 := (Turn.of_below (bt hl hq)).trans ht2
  have hlocs : ∀ k, (Value.slice a' m' c').ownBlock = some k → k ≠ w.heap.size ∧ k ≠ w.heap.size + 1 + 1 ∧ (v.ownBlock = some k ∨ w.heap.size ≤ k) := fun k hk => by
    rcases hloc with e | e
    · rw [e] at hk
      have := hlt k hk
      exact ⟨by omega, by omega, Or.inl hk⟩
    · rw [e, World.size_alloc] at hk
      injection hk with hk
      exact ⟨by omega, by omega, Or.inr (by omega)⟩
  have HL : Hid ((Value.slice a' m' c').ownBlock = v.ownBlock ∨ ∀ k, (Value.slice a' m' c').ownBlock = some k → w.heap.size ≤ k) := by
    rcases hloc with e | e
    · exact Or.inl e
    · refine Or.inr (fun k hk => ?_)
      rw [e, World.size_alloc] at hk
      injection hk with hk
      omega
  have hone : (#[.int .i64 at_, .int .i64 tu, (.slice a' m' c')] : Array Value).all (·.oneCell') = true := by simp [Value.oneCell']
  obtain ⟨f2a, f2b⟩ := hX.2 2 _ rfl
  have hX3 : At (w2.setCell ⟨w.heap.size, 2, none⟩ (.slice a' m' c')) w.heap.size #[.int .i64 at_, .int .i64 tu, (.slice a' m' c')] := hX.set 2 (.slice a' m' c')
  have ht3 := turn_set w2 w.heap.size 2 (.slice a' m' c')
  have hZ3 := hZ.turn ht3 (by omega)
  have hr3 := hr2.turn ht3 (fun k hk e => (hlocs k hk).1 e)
  have htt3 : Turn (fun k => v.ownBlock = some k) w (w2.setCell ⟨w.heap.size, 2, none⟩ (.slice a' m' c')) := htt.step ht3 (fun j hj => Or.inr (by omega))
  clear hX hZ hr2 htt ht2 hloc hlt hB hr1 hnX hnZ
  go_upto_region 3 with fail
  generalize w2.setCell ⟨w.heap.size, 2, none⟩ (.slice a' m' c') = w3 at *
  go_wp2_with (first | (refine wpList_load_at rfl 61 _ rfl _ w.heap.size #[.int .i64 at_, .int .i64 tu, (.slice a' m' c')] _ rfl hX3 Try.underlying61 infoX ?_) | (refine wpList_store_at rfl 61 _ _ rfl _ (w.heap.size + 1 + 1) #[.int .i64 0, .int .i64 0, .slice none 0 0] #[.int .i64 at_, .int .i64 tu, (.slice a' m' c')] rfl rfl hZ3 rfl infoX hone ?_; intro w4 hZ4 ht4))
  have r0 := (hZ4.2 0 _ rfl).1
  have r1 := (hZ4.2 1 _ rfl).1
  have r2 := (hZ4.2 2 _ rfl).1
  exact bodyPost_ret (v := .agg #[.int .i64 at_, .int .i64 tu, (.slice a' m' c')]) (by simp [results, Try.results38, go_sem, r0, r1, r2]) rfl ⟨_, i, rfl, hi, HC.out, hr3.turn ht4 (fun k hk e => (hlocs k hk).2.1 e), htt3.step ht4 (fun j hj => Or.inr (by omega)), HL.out⟩
end Go.Proofs.Ytcjhniehbafhpaa
