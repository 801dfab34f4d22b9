/- hold, where packets wait for that neighbour already. -/
import Derived.Test.YtjldcillackhdaaNj
namespace Go.Proofs.Ytjldcillackhdaa
open Go.RowKit Go.Maps Go.Proofs.Ytjldcillackhdaa.Eth Go.Proofs.Ytjldcillackhdaa.Eth.Arp
set_option maxRecDepth 100000
set_option linter.unusedVariables false
set_option linter.unusedSimpArgs false

theorem PR.ne {w : World} {base b k : Nat} {v : Value} {pt : Int} {ids : List Int} {vs : Array Value} {j : Nat} {u : Value} (h : PR w base v pt ids) (hn : ids ≠ []) (hk : v.ownBlock = some k) (hA : At w b vs) (hj : vs[j]? = some u) (hu : ∀ id, ∃ x, (pkC pt id)[j]? = some x ∧ x ≠ u) : k ≠ b := by
  intro e
  subst e
  obtain ⟨id, r, rfl⟩ := List.exists_cons_of_ne_nil hn
  obtain ⟨g, cap, rfl, -, hc⟩ := h.cells (i := 0) (e := id) rfl
  simp [Value.ownBlock] at hk
  subst hk
  obtain ⟨x, hx, hne⟩ := hu id
  have h1 := hc j x hx
  rw [Nat.zero_mul, Nat.zero_add] at h1
  have h2 := (hA.2 j u hj).1
  rw [h1] at h2
  exact hne (Option.some.inj h2)
theorem PR.ne_vm {w : World} {base b k : Nat} {v : Value} {pt : Int} {ids : List Int} {l : List Vn} (h : PR w base v pt ids) (hn : ids ≠ []) (hk : v.ownBlock = some k) (hA : VM w b l) : k ≠ b := by
  intro e
  subst e
  obtain ⟨id, r, rfl⟩ := List.exists_cons_of_ne_nil hn
  obtain ⟨g, cap, rfl, -, hc⟩ := h.cells (i := 0) (e := id) rfl
  simp [Value.ownBlock] at hk
  subst hk
  obtain ⟨⟨es, clock, hb, -⟩, -⟩ := hA
  have h1 := hc 0 _ rfl
  simp [World.cell?, hb] at h1
set_option maxHeartbeats 4000000 in
theorem hold_s (C M A g c : Nat) (mac ag pa ro wa la wt : Int) (base : Nat) (x pt id now : Int) (ga : Int → Option (Int × Bool × Sl)) (w : World) (hC : At w C (cV mac ag pa ro wa (.slice (some ⟨g, 0, none⟩) 1 c) la M A wt)) (hO : Ints w base (.slice (some ⟨g, 0, none⟩) 1 c) [x]) (hA : AM w A ga) (hne : C ≠ A) (hgA : g ≠ A) (hgC : g ≠ C) (hk : (Lit.int .i64 pt).wf = true) (hwt : 0 ≤ wt ∧ wt ≤ 5000) (hkeys : ∀ k, (ga k).isSome = true → 0 ≤ k ∧ k < 0 + (5000 : Nat)) (qa : Int) (qb : Bool) (qp : Option Addr) (qc : Nat) (ids : List Int) (pbase : Nat) (hids : ids ≠ []) (hil : ids.length < 5000) (hg : ga pt = some (qa, qb, qp, ids.length, qc)) (hPw : PR w pbase (.slice qp ids.length qc) pt ids) (hpb : pbase ≤ w.heap.size) (hgP : (Value.slice qp ids.length qc).ownBlock ≠ some g) :
    Calls Try.prog 22 #[.pointer (some ⟨C, 0, none⟩), .agg #[.int .i64 10, .int .i64 pt, .int .i64 9, .int .i64 0, .int .i64 id, .int .i64 0, .bool false, .bool false, .string ⟨#[]⟩, .string ⟨#[]⟩], .int .i64 pt, .int .i64 now] w fun e w' => ∃ a6 p6, e = .returned (.agg #[.int .i64 0, .int .i64 0, .int .i64 0, .int .i64 0, .int .i64 0]) ∧ At w' C (cV mac ag pa ro wa (.slice (some ⟨g, 0, none⟩) 1 c) la M A (wt + 1)) ∧ AM w' A (fun k => if k = pt then some (qa, qb, a6, ids.length + 1, p6) else ga k) ∧ PR w' pbase (.slice a6 (ids.length + 1) p6) pt (ids ++ [id]) ∧ Turn (fun k => (k = A ∨ k = C) ∨ (Value.slice qp ids.length qc).ownBlock = some k) w w' := by
  obtain ⟨al, hV, hv⟩ := hA
  have hvk := hv pt
  have hln : al.length ≤ 5000 := vm_keys hV.2 hv (fun k hk => hkeys k (by simpa using hk))
  have hAw := hV.lt
  have hCw := hC.1
  have hgw := hO.lt g rfl
  have q1 := bel1 w (.cells #[.int .i64 10, .int .i64 pt, .int .i64 9, .int .i64 0, .int .i64 id, .int .i64 0, .bool false, .bool false, .string ⟨#[]⟩, .string ⟨#[]⟩] 29)
  have q2 := bel1 (w.alloc (.cells #[.int .i64 10, .int .i64 pt, .int .i64 9, .int .i64 0, .int .i64 id, .int .i64 0, .bool false, .bool false, .string ⟨#[]⟩, .string ⟨#[]⟩] 29)) (.cells #[.int .i64 0, .int .i64 0, .int .i64 0, .int .i64 0, .int .i64 0] 31)
  have hb1 := bt q1 q2
  have hP1 := (At.box w #[.int .i64 10, .int .i64 pt, .int .i64 9, .int .i64 0, .int .i64 id, .int .i64 0, .bool false, .bool false, .string ⟨#[]⟩, .string ⟨#[]⟩] 29).later q2
  have hR1 := At.box (w.alloc (.cells #[.int .i64 10, .int .i64 pt, .int .i64 9, .int .i64 0, .int .i64 id, .int .i64 0, .bool false, .bool false, .string ⟨#[]⟩, .string ⟨#[]⟩] 29)) #[.int .i64 0, .int .i64 0, .int .i64 0, .int .i64 0, .int .i64 0] 31
  rw [show (w.alloc (.cells #[.int .i64 10, .int .i64 pt, .int .i64 9, .int .i64 0, .int .i64 id, .int .i64 0, .bool false, .bool false, .string ⟨#[]⟩, .string ⟨#[]⟩] 29)).heap.size = w.heap.size + 1 by simp] at hR1
  have hC1 := hC.later hb1
  have hO1 := hO.later hb1
  have hV1 := hV.later hb1
  clear q1 q2
  have hs1 : ((w.alloc (.cells #[.int .i64 10, .int .i64 pt, .int .i64 9, .int .i64 0, .int .i64 id, .int .i64 0, .bool false, .bool false, .string ⟨#[]⟩, .string ⟨#[]⟩] 29)).alloc (.cells #[.int .i64 0, .int .i64 0, .int .i64 0, .int .i64 0, .int .i64 0] 31)).heap.size = w.heap.size + 2 := by simp
  go_enter Try.func22, Try.ntmps22
  go_upto_region 1 with fail
  generalize (w.alloc (.cells #[.int .i64 10, .int .i64 pt, .int .i64 9, .int .i64 0, .int .i64 id, .int .i64 0, .bool false, .bool false, .string ⟨#[]⟩, .string ⟨#[]⟩] 29)).alloc (.cells #[.int .i64 0, .int .i64 0, .int .i64 0, .int .i64 0, .int .i64 0] 31) = w1 at *
  have c8 : w1.cell? ⟨C, 8, none⟩ = some (.map (some A)) := (hC1.2 8 _ rfl).1
  rw [hg, Option.map_some] at hvk
  have hPl := hPw.lt
  have hPc : ∀ k, (Value.slice qp ids.length qc).ownBlock = some k → k ≠ C := fun k hk => hPw.ne hids hk hC (j := 6) (u := .int .i64 la) rfl (fun _ => ⟨_, rfl, by simp⟩)
  have hPA : ∀ k, (Value.slice qp ids.length qc).ownBlock = some k → k ≠ A := fun k hk => hPw.ne_vm hids hk hV
  have hP1' := hPw.later hb1
  have q3 := bel1 w1 (.cells #[.int .i64 qa, .bool qb, .slice qp ids.length qc] 78)
  have hB2 := At.box w1 #[.int .i64 qa, .bool qb, .slice qp ids.length qc] 78
  rw [hs1] at hB2
  have hs2 : w.heap.size + 3 ≤ (w1.alloc (.cells #[.int .i64 qa, .bool qb, .slice qp ids.length qc] 78)).heap.size := by simp; omega
  go_upto_region 5 with (first
    | (at_lookup; refine wpList_lookup_vm rfl _ _ rfl A al pt hk Try.underlying62 zeroQ rfl hV1 rfl ?_; rw [hvk, Option.getD_some, Option.isSome_some, show av (qa, qb, qp, ids.length, qc) = .agg #[.int .i64 qa, .bool qb, .slice qp ids.length qc] from rfl])
    | go_in)
  have hP5 := hP1.later q3
  have hR5 := hR1.later q3
  have hC5 := hC1.later q3
  have hV5 := hV1.later q3
  have hQr := hP1'.later q3
  have htt5 : Turn (fun k => (k = A ∨ k = C) ∨ (Value.slice qp ids.length qc).ownBlock = some k) w (w1.alloc (.cells #[.int .i64 qa, .bool qb, .slice qp ids.length qc] 78)) := Turn.of_below (bt hb1 q3)
  have hB5 := hB2
  clear hP1 hR1 hC1 hO1 hV1 hP1' q3 hB2
  generalize w1.alloc (.cells #[.int .i64 qa, .bool qb, .slice qp ids.length qc] 78) = w5 at *
  obtain ⟨p0, p1, p2, p3, p4, p5, p6, p7, p8, p9⟩ := hP5.ten
  have b2 : w5.cell? ⟨w.heap.size + 2, 2, none⟩ = some (.slice qp ids.length qc) := (hB5.2 2 _ rfl).1
  have b2f : w5.frozen? ⟨w.heap.size + 2, 2, none⟩ = false := (hB5.2 2 _ rfl).2
  have hs5 : w.heap.size ≤ w5.heap.size := htt5.size
  go_upto_region 6 with (first
    | (at_builtin; refine wpList_append10 rfl _ _ rfl pbase (.slice qp ids.length qc) pt ids id rfl hQr rfl (by omega) (by omega) ?_; intro v6 wx hPR hbx htx; obtain ⟨a6, p6', rfl, -⟩ := hPR.shape; have hBx := hB5.turn htx (fun e => by have := hPl _ e; omega); have b2x : wx.cell? ⟨w.heap.size + 2, 2, none⟩ = some (.slice qp ids.length qc) := (hBx.2 2 _ rfl).1; have b2fx : wx.frozen? ⟨w.heap.size + 2, 2, none⟩ = false := (hBx.2 2 _ rfl).2)
    | go_in)
  obtain ⟨p6, hp6⟩ : ∃ q, q = p6' := ⟨_, rfl⟩
  subst hp6
  replace hPR : PR wx pbase (.slice a6 (ids.length + 1) p6) pt (ids ++ [id]) := by simpa using hPR
  have hCx := hC5.turn htx (fun e => (hPc _ e) rfl)
  have hRx := hR5.turn htx (fun e => by have := hPl _ e; omega)
  have hVx := hV5.turn htx (fun e => (hPA _ e) rfl)
  have hnx : ids ++ [id] ≠ [] := by simp
  have gC : ∀ k, (Value.slice a6 (ids.length + 1) p6).ownBlock = some k → k ≠ C := fun k hk => hPR.ne hnx hk hCx (j := 6) (u := .int .i64 la) rfl (fun _ => ⟨_, rfl, by simp⟩)
  have gA : ∀ k, (Value.slice a6 (ids.length + 1) p6).ownBlock = some k → k ≠ A := fun k hk => hPR.ne_vm hnx hk hVx
  have gR : ∀ k, (Value.slice a6 (ids.length + 1) p6).ownBlock = some k → k ≠ w.heap.size + 1 := fun k hk => hPR.ne hnx hk hRx (j := 0) (u := .int .i64 0) rfl (fun _ => ⟨_, rfl, by simp⟩)
  have gB : ∀ k, (Value.slice a6 (ids.length + 1) p6).ownBlock = some k → k ≠ w.heap.size + 2 := fun k hk => hPR.ne hnx hk hBx (j := 1) (u := .bool qb) rfl (fun _ => ⟨_, rfl, by simp⟩)
  have ts6 := turn_set wx (w.heap.size + 2) 2 (.slice a6 (ids.length + 1) p6)
  have hB6 : At (wx.setCell ⟨w.heap.size + 2, 2, none⟩ (.slice a6 (ids.length + 1) p6)) (w.heap.size + 2) #[.int .i64 qa, .bool qb, .slice a6 (ids.length + 1) p6] := hBx.set 2 _
  have hC6 := hCx.turn ts6 (by omega)
  have hR6 := hRx.turn ts6 (by omega)
  have hV6 := hVx.turn ts6 (by omega)
  have hP6 := hPR.turn ts6 (fun k hk he => gB k hk he)
  have htt6 := (htt5.step htx (fun j hj => Or.inl (Or.inr hj))).step ts6 (fun j hj => Or.inr (by omega))
  have hil1 : ((ids.length + 1 : Nat) : Int) = (ids.length : Int) + 1 := by omega
  clear hP5 hC5 hR5 hV5 hB5 htt5 hPR b2x b2fx b2 b2f p0 p1 p2 p3 p4 p5 p7 p8 p9 hQr hCx hRx hVx hBx
  generalize wx.setCell ⟨w.heap.size + 2, 2, none⟩ (.slice a6 (ids.length + 1) p6) = w6 at *
  obtain ⟨e0, e1, e2⟩ : w6.cell? ⟨w.heap.size + 2, 0, none⟩ = some (.int .i64 qa) ∧ w6.cell? ⟨w.heap.size + 2, 1, none⟩ = some (.bool qb) ∧ w6.cell? ⟨w.heap.size + 2, 2, none⟩ = some (.slice a6 (ids.length + 1) p6) := ⟨(hB6.2 0 _ rfl).1, (hB6.2 1 _ rfl).1, (hB6.2 2 _ rfl).1⟩
  have d8 : w6.cell? ⟨C, 8, none⟩ = some (.map (some A)) := (hC6.2 8 _ rfl).1
  have hne6 : C ≠ w.heap.size + 2 := by omega
  obtain ⟨W3, hr3, hV7, ht7⟩ := VM.put (w := w6.drew) (t := 62) (e := 78) (k := pt) hV6 Try.underlying62 (by omega) hk (.agg #[.int .i64 qa, .bool qb, .slice a6 (ids.length + 1) p6])
  replace ht7 := ht7.undrew
  have hC7 := hC6.turn ht7 hne
  have hR7 := hR6.turn ht7 (by omega)
  have hP7 := hP6.turn ht7 (fun k hk he => gA k hk he)
  have hA7 : AM W3 A (fun k => if k = pt then some (qa, qb, a6, (ids.length + 1), p6) else ga k) := ⟨_, hV7, fun k => by
    rw [vlk_put hV7.2 hV6.2]
    by_cases hx : k = pt
    · simp [hx, av]
    · simp [hx, hv k]⟩
  have htt7 := htt6.step ht7 (fun j hj => Or.inl (Or.inl (Or.inl hj)))
  clear hC6 hR6 hP6 hV6 hB6 htt6
  go_region
  have g9 : W3.cell? ⟨C, 9, none⟩ = some (.int .i64 wt) := (hC7.2 9 _ rfl).1
  have k9 : W3.frozen? ⟨C, 9, none⟩ = false := (hC7.2 9 _ rfl).2
  go_upto_region 8 with fail
  have ts := turn_set W3 C 9 (.int .i64 (wt + 1))
  have hC8 : At (W3.setCell ⟨C, 9, none⟩ (.int .i64 (wt + 1))) C (cV mac ag pa ro wa (.slice (some ⟨g, 0, none⟩) 1 c) la M A (wt + 1)) := hC7.set 9 _
  have hR8 := hR7.turn ts (by omega)
  have hA8 := hA7.turn ts (Ne.symm hne)
  have hP8 := hP7.turn ts (fun k hk he => gC k hk he)
  have htt8 := htt7.step ts (fun j hj => Or.inl (Or.inl (Or.inr hj)))
  generalize W3.setCell ⟨C, 9, none⟩ (.int .i64 (wt + 1)) = w9 at *
  obtain ⟨⟨r0, r1, r2, r3, r4⟩, ⟨f0, f1, f2, f3, f4⟩, fb⟩ := hR8.five
  have t5 := turn5 w9 (w.heap.size + 1) (.int .i64 0) (.int .i64 0) (.int .i64 0) (.int .i64 0) (.int .i64 0)
  have hC9 := hC8.turn t5 (by omega)
  have hA9 := hA8.turn t5 (by omega)
  have hP9 := hP8.turn t5 (fun k hk he => gR k hk he)
  have htt9 := htt8.step t5 (fun j hj => Or.inr (by omega))
  go_wp2
  exact bodyPost_ret (v := .agg #[.int .i64 0, .int .i64 0, .int .i64 0, .int .i64 0, .int .i64 0]) (by simp [results, Try.results22, go_sem, r0, r1, r2, r3, r4]) rfl ⟨a6, p6, rfl, hC9, hA9, hP9, htt9⟩
end Go.Proofs.Ytjldcillackhdaa
