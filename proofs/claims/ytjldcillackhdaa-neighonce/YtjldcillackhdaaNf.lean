/- Rows of packets that wait; hold. -/
import Derived.Test.YtjldcillackhdaaNe
import Derived.Test.YtjldcillackhdaaPChk
namespace Go.Proofs.Ytjldcillackhdaa
open Go.RowKit Go.Maps Go.Proofs.Ytjldcillackhdaa.Eth Go.Proofs.Ytjldcillackhdaa.Eth.Arp
set_option maxRecDepth 100000
set_option linter.unusedVariables false
set_option linter.unusedSimpArgs false

/-- The cells of a packet to pt with the number id. -/
def pkC (pt id : Int) : List Value := [.int .i64 10, .int .i64 pt, .int .i64 9, .int .i64 0, .int .i64 id, .int .i64 0, .bool false, .bool false, .string ⟨#[]⟩, .string ⟨#[]⟩]
/-- A slice of such packets to pt, of its own memory, from base on. -/
def PR (w : World) (base : Nat) (v : Value) (pt : Int) (ids : List Int) : Prop := w.ownsRow base 29 10 v ids.length (ids.flatMap (pkC pt))
theorem PR.nil (w : World) (base : Nat) (pt : Int) : PR w base (.slice none 0 0) pt [] := World.ownsRow_nil _ _ _ _
theorem infoP : (Try.prog.info? 29).map (fun i => (i.zero, i.size, i.bytes)) = some (some (.agg #[.int .i64 0, .int .i64 0, .int .i64 0, .int .i64 0, .int .i64 0, .int .i64 0, .bool false, .bool false, .string ⟨#[]⟩, .string ⟨#[]⟩]), 10, 88) := by kernel_rfl
theorem PR.ge {w : World} {base : Nat} {v : Value} {pt : Int} {l : List Int} (h : PR w base v pt l) : ∀ j, v.ownBlock = some j → base ≤ j := by
  intro j hj
  rcases h.2 with ⟨rfl, -⟩ | ⟨g, cap, cur, rfl, hg, -⟩
  · simp [Value.ownBlock] at hj
  · simp [Value.ownBlock] at hj; omega
theorem PR.lt {w : World} {base : Nat} {v : Value} {pt : Int} {l : List Int} (h : PR w base v pt l) : ∀ k, v.ownBlock = some k → k < w.heap.size := fun k hk => (World.ownsRow.lt h k hk).2
theorem PR.turn {S : Nat → Prop} {w w' : World} {base : Nat} {v : Value} {pt : Int} {l : List Int} (h : PR w base v pt l) (ht : Turn S w w') (hS : ∀ k, v.ownBlock = some k → ¬ S k) : PR w' base v pt l := by
  obtain ⟨i1, i2⟩ := h
  refine ⟨i1, ?_⟩
  rcases i2 with h | ⟨g, cap, cur, a1, a2, a3, a4⟩
  · exact Or.inl h
  · exact Or.inr ⟨g, cap, cur, a1, a2, (ht.block g (Array.getElem?_eq_some_iff.1 a3).1 (hS g (by rw [a1]; simp [Value.ownBlock]))).trans a3, a4⟩
theorem PR.later {w w' : World} {b : Nat} {v : Value} {pt : Int} {l : List Int} (h : PR w b v pt l) (hb : Below w.heap.size w w') : PR w' b v pt l := h.turn (S := fun _ => False) (Turn.of_below hb) (fun _ _ h => h)
theorem PR.low {w : World} {b b' : Nat} {v : Value} {pt : Int} {l : List Int} (h : PR w b v pt l) (hb : b' ≤ b) : PR w b' v pt l := by
  obtain ⟨h1, h2⟩ := h
  refine ⟨h1, ?_⟩
  rcases h2 with h | ⟨g, cap, cur, a1, a2, a3⟩
  · exact Or.inl h
  · exact Or.inr ⟨g, cap, cur, a1, Nat.le_trans hb a2, a3⟩
theorem PR.shape {w : World} {b : Nat} {v : Value} {pt : Int} {l : List Int} (h : PR w b v pt l) : ∃ a c, v = .slice a l.length c ∧ (l = [] ∨ ∃ g, a = some ⟨g, 0, none⟩) := by
  rcases h.2 with ⟨rfl, h0⟩ | ⟨g, cap, cur, rfl, -⟩
  · exact ⟨none, 0, by rw [h0], Or.inl (List.length_eq_zero_iff.1 h0)⟩
  · exact ⟨_, _, rfl, Or.inr ⟨g, rfl⟩⟩
theorem pflat_len (pt : Int) (l : List Int) : (l.flatMap (pkC pt)).length = l.length * 10 := by
  induction l with
  | nil => rfl
  | cons y r ih => simp [List.flatMap_cons, pkC, ih]; omega
theorem pflat_at (pt : Int) : ∀ (l : List Int) (i : Nat) (e : Int), l[i]? = some e → ∀ j v, (pkC pt e)[j]? = some v → (l.flatMap (pkC pt))[i * 10 + j]? = some v
  | [], i, e, h => by simp at h
  | y :: r, 0, e, h => by
    obtain rfl : y = e := by simpa using h
    intro j v hv
    have hj : j < (pkC pt y).length := (List.getElem?_eq_some_iff.1 hv).1
    rw [List.flatMap_cons, Nat.zero_mul, Nat.zero_add, List.getElem?_append_left hj]
    exact hv
  | y :: r, i + 1, e, h => by
    intro j v hv
    have := pflat_at pt r i e (by simpa using h) j v hv
    rw [List.flatMap_cons, List.getElem?_append_right (by simp [pkC]; omega)]
    rw [show (i + 1) * 10 + j - (pkC pt y).length = i * 10 + j by simp [pkC]; omega]
    exact this
/-- The cells of an element. -/
theorem PR.cells {w : World} {base : Nat} {v : Value} {pt : Int} {l : List Int} (h : PR w base v pt l) {i : Nat} {e : Int} (he : l[i]? = some e) :
    ∃ g cap, v = .slice (some ⟨g, 0, none⟩) l.length cap ∧ base ≤ g ∧ ∀ j u, (pkC pt e)[j]? = some u → w.cell? ⟨g, i * 10 + j, none⟩ = some u := by
  have hi : i < l.length := (List.getElem?_eq_some_iff.1 he).1
  rcases h.2 with ⟨rfl, h0⟩ | ⟨g, cap, cur, rfl, hg, hb, h1, h2, h3, h4⟩
  · omega
  · refine ⟨g, cap, rfl, hg, fun j u hu => ?_⟩
    have hx := pflat_at pt l i e he j u hu
    rw [← h4] at hx
    have hj : i * 10 + j < l.length * 10 := by
      have := (List.getElem?_eq_some_iff.1 hx).1
      rw [List.length_take] at this
      omega
    rw [List.getElem?_take_of_lt hj] at hx
    simp [World.cell?, hb]
    simpa using hx
/-- append of one. -/
theorem wpList_append10 {w : World} {ops : Array Oper} {rest : List Oper} {o : Oper} {a : Act} {Q : Exit → Act → World → Prop} (hgd : o.guard = none) (s x : Operand)
    (ho : o.op = .call { callee := .builtin .append, args := #[s, x], argTypes := #[39, 39] }) (base : Nat) (v : Value) (pt : Int) (l : List Int) (id : Int) (hs : a.eval s = v) (hown : PR w base v pt l) (hx : a.eval x = .slice (some ⟨w.heap.size, 0, none⟩) 1 1) (hbase : base ≤ w.heap.size) (hlen : l.length < 1000000)
    (h : ∀ v' w', PR w' base v' pt (l ++ [id]) → Below base w w' → Turn (fun k => v.ownBlock = some k) w w' → wpList Try.prog ops Q rest (a.put o.dst v') w') : wpList Try.prog ops Q (o :: rest) a (w.alloc (.cells #[.int .i64 10, .int .i64 pt, .int .i64 9, .int .i64 0, .int .i64 id, .int .i64 0, .bool false, .bool false, .string ⟨#[]⟩, .string ⟨#[]⟩] 29)) := by
  obtain ⟨i0, hi, hz0, hz1, hz2⟩ := info_parts infoP
  refine wpList_append_own _ hgd s x 39 ho base 29 i0 _ 10 88 Try.underlying39 hi hz0 hz1 hz2 rfl (by decide) v l.length (l.flatMap (pkC pt)) hs (World.ownsRow.alloc hown _) ⟨w.heap.size, 0, none⟩ 1 1 (pkC pt id) hx rfl ?_ (by simp [pkC, Value.oneCell']) (by unfold maxLen; omega) (by omega) (Nat.le_trans hbase (bel1 w _).size) ?_
  · intro j u hu
    rw [Addr.add_lit, Nat.zero_add]
    exact ((At.box w #[.int .i64 10, .int .i64 pt, .int .i64 9, .int .i64 0, .int .i64 id, .int .i64 0, .bool false, .bool false, .string ⟨#[]⟩, .string ⟨#[]⟩] 29).2 j u (by simpa [pkC] using hu)).1
  · intro v' w' h1 h2 h3
    have hT : Turn (fun k => v.ownBlock = some k) w w' := (Turn.of_below (bel1 w _)).and h2 (fun j hj => Or.inl hj)
    refine h v' w' ?_ (hT.below hbase (fun k hk he => by have := hown.ge k he; omega)) hT
    unfold PR
    simpa using h1
theorem turn5 (w : World) (b : Nat) (v0 v1 v2 v3 v4 : Value) : Turn (fun k => k = b) w (((((w.setCell ⟨b, 0, none⟩ v0).setCell ⟨b, 1, none⟩ v1).setCell ⟨b, 2, none⟩ v2).setCell ⟨b, 3, none⟩ v3).setCell ⟨b, 4, none⟩ v4) :=
  ((((turn_set w b 0 v0).trans (turn_set _ b 1 v1)).trans (turn_set _ b 2 v2)).trans (turn_set _ b 3 v3)).trans (turn_set _ b 4 v4)
theorem at5 {w : World} {b : Nat} {u0 u1 u2 u3 u4 : Value} (h : At w b #[u0, u1, u2, u3, u4]) (v0 v1 v2 v3 v4 : Value) : At (((((w.setCell ⟨b, 0, none⟩ v0).setCell ⟨b, 1, none⟩ v1).setCell ⟨b, 2, none⟩ v2).setCell ⟨b, 3, none⟩ v3).setCell ⟨b, 4, none⟩ v4) b #[v0, v1, v2, v3, v4] :=
  ((((h.set 0 v0).set 1 v1).set 2 v2).set 3 v3).set 4 v4
theorem Eth.Arp.At.ten {W : World} {b : Nat} {v0 v1 v2 v3 v4 v5 v6 v7 v8 v9 : Value} (h : At W b #[v0, v1, v2, v3, v4, v5, v6, v7, v8, v9]) : W.cell? ⟨b, 0, none⟩ = some v0 ∧ W.cell? ⟨b, 1, none⟩ = some v1 ∧ W.cell? ⟨b, 2, none⟩ = some v2 ∧ W.cell? ⟨b, 3, none⟩ = some v3 ∧ W.cell? ⟨b, 4, none⟩ = some v4 ∧ W.cell? ⟨b, 5, none⟩ = some v5 ∧ W.cell? ⟨b, 6, none⟩ = some v6 ∧ W.cell? ⟨b, 7, none⟩ = some v7 ∧ W.cell? ⟨b, 8, none⟩ = some v8 ∧ W.cell? ⟨b, 9, none⟩ = some v9 :=
  ⟨(h.2 0 _ rfl).1, (h.2 1 _ rfl).1, (h.2 2 _ rfl).1, (h.2 3 _ rfl).1, (h.2 4 _ rfl).1, (h.2 5 _ rfl).1, (h.2 6 _ rfl).1, (h.2 7 _ rfl).1, (h.2 8 _ rfl).1, (h.2 9 _ rfl).1⟩
set_option maxHeartbeats 4000000 in
theorem hold_n (C M A g c : Nat) (mac ag pa ro wa la wt : Int) (base : Nat) (x pt id now : Int) (ga : Int → Option (Int × Bool × Sl)) (w : World) (hC : At w C (cV mac ag pa ro wa (.slice (some ⟨g, 0, none⟩) 1 c) la M A wt)) (hO : Ints w base (.slice (some ⟨g, 0, none⟩) 1 c) [x]) (hA : AM w A ga) (hne : C ≠ A) (hgA : g ≠ A) (hgC : g ≠ C) (hk : (Lit.int .i64 pt).wf = true) (hwt : 0 ≤ wt ∧ wt ≤ 5000) (hkeys : ∀ k, (ga k).isSome = true → 0 ≤ k ∧ k < 0 + (5000 : Nat)) (hg : ga pt = none) (hm : mayA 1 mac x 0 pt = true) :
    Calls Try.prog 22 #[.pointer (some ⟨C, 0, none⟩), .agg #[.int .i64 10, .int .i64 pt, .int .i64 9, .int .i64 0, .int .i64 id, .int .i64 0, .bool false, .bool false, .string ⟨#[]⟩, .string ⟨#[]⟩], .int .i64 pt, .int .i64 now] w fun e w' => ∃ a6 p6, e = .returned (.agg #[.int .i64 1, .int .i64 mac, .int .i64 x, .int .i64 0, .int .i64 pt]) ∧ At w' C (cV mac ag pa ro wa (.slice (some ⟨g, 0, none⟩) 1 c) la M A (wt + 1)) ∧ AM w' A (fun k => if k = pt then some (now, false, a6, 1, p6) else ga k) ∧ PR w' w.heap.size (.slice a6 1 p6) pt [id] ∧ Turn (fun k => k = A ∨ k = C) w w' := by
  obtain ⟨al, hV, hv⟩ := hA
  have hvk := hv pt
  have hln : al.length ≤ 5000 := vm_keys hV.2 hv (fun k hk => hkeys k (by simpa using hk))
  have hAw := hV.lt
  have hCw := hC.1
  have hgw := hO.lt g rfl
  have q1 := bel1 w (.cells #[.int .i64 10, .int .i64 pt, .int .i64 9, .int .i64 0, .int .i64 id, .int .i64 0, .bool false, .bool false, .string ⟨#[]⟩, .string ⟨#[]⟩] 29)
  have q2 := bel1 (w.alloc (.cells #[.int .i64 10, .int .i64 pt, .int .i64 9, .int .i64 0, .int .i64 id, .int .i64 0, .bool false, .bool false, .string ⟨#[]⟩, .string ⟨#[]⟩] 29)) (.cells #[.int .i64 0, .int .i64 0, .int .i64 0, .int .i64 0, .int .i64 0] 31)
  have hb1 := bt q1 q2
  have hP1 := (At.box w #[.int .i64 10, .int .i64 pt, .int .i64 9, .int .i64 0, .int .i64 id, .int .i64 0, .bool false, .bool false, .string ⟨#[]⟩, .string ⟨#[]⟩] 29).later q2
  have hR1 := At.box (w.alloc (.cells #[.int .i64 10, .int .i64 pt, .int .i64 9, .int .i64 0, .int .i64 id, .int .i64 0, .bool false, .bool false, .string ⟨#[]⟩, .string ⟨#[]⟩] 29)) #[.int .i64 0, .int .i64 0, .int .i64 0, .int .i64 0, .int .i64 0] 31
  rw [show (w.alloc (.cells #[.int .i64 10, .int .i64 pt, .int .i64 9, .int .i64 0, .int .i64 id, .int .i64 0, .bool false, .bool false, .string ⟨#[]⟩, .string ⟨#[]⟩] 29)).heap.size = w.heap.size + 1 by simp] at hR1
  have hC1 := hC.later hb1
  have hO1 := hO.later hb1
  have hV1 := hV.later hb1
  clear q1 q2
  have hs1 : ((w.alloc (.cells #[.int .i64 10, .int .i64 pt, .int .i64 9, .int .i64 0, .int .i64 id, .int .i64 0, .bool false, .bool false, .string ⟨#[]⟩, .string ⟨#[]⟩] 29)).alloc (.cells #[.int .i64 0, .int .i64 0, .int .i64 0, .int .i64 0, .int .i64 0] 31)).heap.size = w.heap.size + 2 := by simp
  go_enter Try.func22, Try.ntmps22
  go_upto_region 1 with fail
  generalize (w.alloc (.cells #[.int .i64 10, .int .i64 pt, .int .i64 9, .int .i64 0, .int .i64 id, .int .i64 0, .bool false, .bool false, .string ⟨#[]⟩, .string ⟨#[]⟩] 29)).alloc (.cells #[.int .i64 0, .int .i64 0, .int .i64 0, .int .i64 0, .int .i64 0] 31) = w1 at *
  have c8 : w1.cell? ⟨C, 8, none⟩ = some (.map (some A)) := (hC1.2 8 _ rfl).1
  rw [hg, Option.map_none] at hvk
  have q3 := bel1 w1 (.cells #[.int .i64 0, .bool false, .slice none 0 0] 78)
  have hB2 := At.box w1 #[.int .i64 0, .bool false, .slice none 0 0] 78
  rw [hs1] at hB2
  go_upto_region 3 with (first
    | (at_lookup; refine wpList_lookup_vm rfl _ _ rfl A al pt hk Try.underlying62 zeroQ rfl hV1 rfl ?_; rw [hvk, Option.getD_none, Option.isSome_none, show av (0, false, none, 0, 0) = .agg #[.int .i64 0, .bool false, .slice none 0 0] from rfl])
    | go_in)
  have hP2 := hP1.later q3
  have hR2 := hR1.later q3
  have hC2 := hC1.later q3
  have hO2 := hO1.later q3
  have hV2 := hV1.later q3
  have htt2 : Turn (fun k => k = A ∨ k = C) w (w1.alloc (.cells #[.int .i64 0, .bool false, .slice none 0 0] 78)) := Turn.of_below (bt hb1 q3)
  clear hP1 hR1 hC1 hO1 hV1 q3
  generalize w1.alloc (.cells #[.int .i64 0, .bool false, .slice none 0 0] 78) = w2 at *
  have b0 : w2.cell? ⟨w.heap.size + 2, 0, none⟩ = some (.int .i64 0) := (hB2.2 0 _ rfl).1
  have b0f : w2.frozen? ⟨w.heap.size + 2, 0, none⟩ = false := (hB2.2 0 _ rfl).2
  go_upto_region 4 with fail
  have ts3 := turn_set w2 (w.heap.size + 2) 0 (.int .i64 now)
  have hB3 : At (w2.setCell ⟨w.heap.size + 2, 0, none⟩ (.int .i64 now)) (w.heap.size + 2) #[.int .i64 now, .bool false, .slice none 0 0] := hB2.set 0 _
  have hP3 := hP2.turn ts3 (by omega)
  have hR3 := hR2.turn ts3 (by omega)
  have hC3 := hC2.turn ts3 (by omega)
  have hO3 := hO2.turn ts3 (fun k hk he => by simp [Value.ownBlock] at hk; omega)
  have hV3 := hV2.turn ts3 (by omega)
  have htt3 := htt2.step ts3 (fun j hj => Or.inr (by omega))
  clear hP2 hR2 hC2 hO2 hV2 hB2 htt2 b0 b0f
  generalize w2.setCell ⟨w.heap.size + 2, 0, none⟩ (.int .i64 now) = w3 at *
  go_wp2_with fail
  refine (question_t C M A g c mac ag pa ro wa la wt base x pt w3 hC3 hO3 hm).mono ?_
  rintro e w4 ⟨rfl, hb4⟩
  have hP4 := hP3.later hb4
  have hR4 := hR3.later hb4
  have hC4 := hC3.later hb4
  have hV4 := hV3.later hb4
  have hB4 := hB3.later hb4
  have htt4 := htt3.later hb4
  clear hP3 hR3 hC3 hO3 hV3 hB3 htt3
  obtain ⟨⟨r0, r1, r2, r3, r4⟩, ⟨f0, f1, f2, f3, f4⟩, fb⟩ := hR4.five
  go_upto_region 5 with fail
  have t5 := turn5 w4 (w.heap.size + 1) (.int .i64 1) (.int .i64 mac) (.int .i64 x) (.int .i64 0) (.int .i64 pt)
  have hR5 := at5 hR4 (.int .i64 1) (.int .i64 mac) (.int .i64 x) (.int .i64 0) (.int .i64 pt)
  have hP5 := hP4.turn t5 (by omega)
  have hC5 := hC4.turn t5 (by omega)
  have hV5 := hV4.turn t5 (by omega)
  have hB5 := hB4.turn t5 (by omega)
  have htt5 := htt4.step t5 (fun j hj => Or.inr (by omega))
  clear hP4 hR4 hC4 hV4 hB4 htt4 r0 r1 r2 r3 r4 f0 f1 f2 f3 f4 fb
  generalize ((((w4.setCell ⟨w.heap.size + 1, 0, none⟩ (.int .i64 1)).setCell ⟨w.heap.size + 1, 1, none⟩ (.int .i64 mac)).setCell ⟨w.heap.size + 1, 2, none⟩ (.int .i64 x)).setCell ⟨w.heap.size + 1, 3, none⟩ (.int .i64 0)).setCell ⟨w.heap.size + 1, 4, none⟩ (.int .i64 pt) = w5 at *
  obtain ⟨p0, p1, p2, p3, p4, p5, p6, p7, p8, p9⟩ := hP5.ten
  have b2 : w5.cell? ⟨w.heap.size + 2, 2, none⟩ = some (.slice none 0 0) := (hB5.2 2 _ rfl).1
  have b2f : w5.frozen? ⟨w.heap.size + 2, 2, none⟩ = false := (hB5.2 2 _ rfl).2
  have hs5 : w.heap.size ≤ w5.heap.size := htt5.size
  have hB5l : w.heap.size + 2 < w5.heap.size := hB5.1
  go_upto_region 6 with (first
    | (at_builtin; refine wpList_append10 rfl _ _ rfl w5.heap.size (.slice none 0 0) pt [] id rfl (PR.nil _ _ _) rfl (Nat.le_refl _) (by decide) ?_; intro v6 wx hPR hbx htx; obtain ⟨a6, p6', rfl, -⟩ := hPR.shape; have b2x := later hbx b2; have b2fx : wx.frozen? ⟨w.heap.size + 2, 2, none⟩ = false := ((hB5.later hbx).2 2 _ rfl).2)
    | go_in)
  obtain ⟨p6, hp6⟩ : ∃ q, q = p6' := ⟨_, rfl⟩
  subst hp6
  replace hPR : PR wx w5.heap.size (.slice a6 1 p6) pt [id] := hPR
  have ts6 := turn_set wx (w.heap.size + 2) 2 (.slice a6 1 p6)
  have hB6 : At (wx.setCell ⟨w.heap.size + 2, 2, none⟩ (.slice a6 1 p6)) (w.heap.size + 2) #[.int .i64 now, .bool false, .slice a6 1 p6] := (hB5.later hbx).set 2 _
  have hC6 := (hC5.later hbx).turn ts6 (by omega)
  have hR6 := (hR5.later hbx).turn ts6 (by omega)
  have hV6 := (hV5.later hbx).turn ts6 (by omega)
  have hge6 := hPR.ge
  have hP6 := (hPR.turn ts6 (fun k hk he => by have := hge6 k hk; omega)).low hs5
  have htt6 := (htt5.later hbx).step ts6 (fun j hj => Or.inr (by omega))
  clear hP5 hC5 hR5 hV5 hB5 htt5 hPR b2x b2fx b2 b2f p0 p1 p2 p3 p4 p5 p7 p8 p9
  generalize wx.setCell ⟨w.heap.size + 2, 2, none⟩ (.slice a6 1 p6) = w6 at *
  obtain ⟨e0, e1, e2⟩ : w6.cell? ⟨w.heap.size + 2, 0, none⟩ = some (.int .i64 now) ∧ w6.cell? ⟨w.heap.size + 2, 1, none⟩ = some (.bool false) ∧ w6.cell? ⟨w.heap.size + 2, 2, none⟩ = some (.slice a6 1 p6) := ⟨(hB6.2 0 _ rfl).1, (hB6.2 1 _ rfl).1, (hB6.2 2 _ rfl).1⟩
  have d8 : w6.cell? ⟨C, 8, none⟩ = some (.map (some A)) := (hC6.2 8 _ rfl).1
  have hne6 : C ≠ w.heap.size + 2 := by omega
  obtain ⟨W3, hr3, hV7, ht7⟩ := VM.put (w := w6.drew) (t := 62) (e := 78) (k := pt) hV6 Try.underlying62 (by omega) hk (.agg #[.int .i64 now, .bool false, .slice a6 1 p6])
  replace ht7 := ht7.undrew
  have hC7 := hC6.turn ht7 hne
  have hR7 := hR6.turn ht7 (by omega)
  have hP7 := hP6.turn ht7 (fun k hk he => by have := hge6 k hk; omega)
  have hA7 : AM W3 A (fun k => if k = pt then some (now, false, a6, 1, p6) else ga k) := ⟨_, hV7, fun k => by
    rw [vlk_put hV7.2 hV6.2]
    by_cases hx : k = pt
    · simp [hx, av]
    · simp [hx, hv k]⟩
  have htt7 := htt6.step ht7 (fun j hj => Or.inl (Or.inl hj))
  clear hC6 hR6 hP6 hV6 hB6 htt6
  go_region
  have g9 : W3.cell? ⟨C, 9, none⟩ = some (.int .i64 wt) := (hC7.2 9 _ rfl).1
  have k9 : W3.frozen? ⟨C, 9, none⟩ = false := (hC7.2 9 _ rfl).2
  go_upto_region 8 with fail
  have ts := turn_set W3 C 9 (.int .i64 (wt + 1))
  have hC8 : At (W3.setCell ⟨C, 9, none⟩ (.int .i64 (wt + 1))) C (cV mac ag pa ro wa (.slice (some ⟨g, 0, none⟩) 1 c) la M A (wt + 1)) := hC7.set 9 _
  have hR8 := hR7.turn ts (by omega)
  have hA8 := hA7.turn ts (Ne.symm hne)
  have hP8 := hP7.turn ts (fun k hk he => by have := hge6 k hk; omega)
  have htt8 := htt7.step ts (fun j hj => Or.inl (Or.inr hj))
  generalize W3.setCell ⟨C, 9, none⟩ (.int .i64 (wt + 1)) = w9 at *
  obtain ⟨⟨r0, r1, r2, r3, r4⟩, ⟨f0, f1, f2, f3, f4⟩, fb⟩ := hR8.five
  have t5 := turn5 w9 (w.heap.size + 1) (.int .i64 1) (.int .i64 mac) (.int .i64 x) (.int .i64 0) (.int .i64 pt)
  have hC9 := hC8.turn t5 (by omega)
  have hA9 := hA8.turn t5 (by omega)
  have hP9 := hP8.turn t5 (fun k hk he => by have := hge6 k hk; omega)
  have htt9 := htt8.step t5 (fun j hj => Or.inr (by omega))
  go_wp2
  exact bodyPost_ret (v := .agg #[.int .i64 1, .int .i64 mac, .int .i64 x, .int .i64 0, .int .i64 pt]) (by simp [results, Try.results22, go_sem, r0, r1, r2, r3, r4]) rfl ⟨a6, p6, rfl, hC9, hA9, hP9, htt9⟩
end Go.Proofs.Ytjldcillackhdaa
