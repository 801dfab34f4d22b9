/- Take and Tick in the state of NeighOnce. -/
import Derived.Test.YtjldcillackhdaaNq
namespace Go.Proofs.Ytjldcillackhdaa
open Go.RowKit Go.Maps Go.Proofs.Ytjldcillackhdaa.Eth Go.Proofs.Ytjldcillackhdaa.Eth.Arp
set_option maxRecDepth 100000
set_option linter.unusedVariables false
set_option linter.unusedSimpArgs false

def TO (la : Int) (gk : Int → Option (Int × Int)) (tf : Int → Option Int) : Prop := ∀ k m t, gk k = some (m, t) → tf k = some m ∨ t + 50 ≤ la
def delG (gi : Int → List Int) (pt : Int) : Int → List Int := fun k => if k = pt then [] else gi k
set_option maxHeartbeats 2000000 in
theorem take_once {n0 C M A g c TM WM bw : Nat} (K : KC n0 C M A g TM WM bw) {w : World} {la wt : Int} {gk : Int → Option (Int × Int)} {ga : Ga} {gi wi : Int → List Int} {tf : Int → Option Int} {wf : Int → Option Value} (h : (OW w C M A g c TM WM bw la wt gk ga gi wi tf wf)) (p : OP la wt gk ga gi) (pt fm now : Int) (hn : la ≤ now ∧ now ≤ 200) (hpt : 11 ≤ pt ∧ pt < 15) (hfm : 3 ≤ fm ∧ fm < 10) (hto : TO la gk tf) :
    Calls Try.prog 10 #[.pointer (some ⟨C, 0, none⟩), .agg #[.int .i64 2, .int .i64 fm, .int .i64 pt, .int .i64 2, .int .i64 10], .int .i64 now] w fun e w' => Below n0 w w' ∧ ∃ gk', TO now gk' (fun k => if k = pt then some fm else tf k) ∧
      ((gi pt = [] ∧ e = .returned (.tuple #[.agg #[.int .i64 0, .int .i64 0, .int .i64 0, .int .i64 0, .int .i64 0], .slice none 0 0, .int .i64 0, .int .i64 0]) ∧ (OW w' C M A g c TM WM bw now wt gk' ga gi wi tf wf) ∧ OP now wt gk' ga gi)
      ∨ (gi pt ≠ [] ∧ ∃ qp qc ga', e = .returned (.tuple #[.agg #[.int .i64 0, .int .i64 0, .int .i64 0, .int .i64 0, .int .i64 0], .slice qp (gi pt).length qc, .int .i64 fm, .int .i64 0]) ∧ PR w' bw (.slice qp (gi pt).length qc) pt (gi pt) ∧ (OW w' C M A g c TM WM bw now (wt - (gi pt).length) gk' ga' (delG gi pt) wi tf wf) ∧ OP now (wt - (gi pt).length) gk' ga' (delG gi pt))) := by
  obtain ⟨hC, hO, hM, hA, ⟨tl, hT, htl⟩, ⟨wl, hW, hwl⟩, hI, hd, hR, hs⟩ := h
  obtain ⟨⟨l1, l2, l3⟩, ⟨n1, n2, n3, n4, n5, n6⟩, m1, m2, m3, m4, m5, m6⟩ := K
  have p2 := p.l0
  have p3 := p.sm
  have p4 := p.le
  have hwt : 0 ≤ wt ∧ wt ≤ 5000 := by omega
  have htk : la ≤ now ∧ now ≤ 1099511627776 := by omega
  have hge := fun k b hb => ((hI k).ge b hb)
  have hmay : mayA 2 fm pt 2 10 = true := decide_eq_true (by refine ⟨Or.inr rfl, by omega, by omega, by omega, by omega, by omega⟩)
  have hcon : [(10 : Int)].contains pt = false := by simp; omega
  have hput : okT (fun k => if k = pt then some (fm, now) else gk k) ∧ ∀ k, ((fun k => if k = pt then some (fm, now) else gk k) k).isSome = true → 11 ≤ k ∧ k < 11 + (4 : Nat) := ⟨okT_put p.ok (by omega) (by omega), fun k hk => by
    by_cases e : k = pt
    · omega
    · simp only [e, if_false] at hk; exact p.kk k hk⟩
  have htoP : TO now (fun k => if k = pt then some (fm, now) else gk k) (fun k => if k = pt then some fm else tf k) := fun k m t hk => by
    by_cases e : k = pt
    · simp only [e, if_true, Option.some.injEq, Prod.mk.injEq] at hk ⊢
      exact Or.inl hk.1
    · simp only [e, if_false] at hk ⊢
      rcases hto k m t hk with h | h
      · exact Or.inl h
      · exact Or.inr (by omega)
  cases hg : ga pt with
  | none =>
    have he := p.qn pt hg
    have fin : ∀ {w' gk'}, Turn (fun k => k = C ∨ k = M ∨ k = A) w w' → At w' C (cV 2 50 4 9 30 (.slice (some ⟨g, 0, none⟩) 1 c) now M A wt) → KM w' M gk' → AM w' A ga → Below n0 w w' ∧ (OW w' C M A g c TM WM bw now wt gk' ga gi wi tf wf) := by
      intro w' gk' ht h1 h2 h3
      refine ⟨ht.below (by omega) (fun k hk he => by omega), ?_⟩
      exact ⟨h1, hO.turn ht (fun b hb he => by simp [Value.ownBlock] at hb; omega), h2, h3, ⟨tl, hT.turn ht (by omega), htl⟩, ⟨wl, hW.turn ht (by omega), hwl⟩, fun k => (hI k).turn ht (fun b hb he => by have := hge k b hb; omega), hd, fun k p hp => (hR k p hp).turn ht (fun b hb he => by have := (hR k p hp).ge b hb; omega), Nat.le_trans hs ht.size⟩
    cases hu : ((lookF gk 50 pt now).2 || (ga pt).isSome) with
    | true =>
      refine (take_tell_n C M A g 1 c 2 50 4 9 30 la wt 0 [10] fm pt 2 10 now gk ga w hC hO (by simp) (by simp) hM hA n1 n2 n3 n4 n5 n6 p.ok (by decide) hmay htk hwt hcon hu hg 11 4 (by omega) p.kk (by decide) (by decide)).mono ?_
      rintro e w' ⟨rfl, h1, h2, h3, h4⟩
      obtain ⟨f1, f2⟩ := fin h4 h1 h2 h3
      exact ⟨f1, _, htoP, Or.inl ⟨he, rfl, f2, hput.1, hput.2, fun k q hq => by have := p.qa k q hq; exact ⟨this.1, this.2.1, this.2.2.1, by omega⟩, p.qn, p.ky, p.sm, p.le, by omega⟩⟩
    | false =>
      refine (take_tell_0 C M A g 1 c 2 50 4 9 30 la wt 0 [10] fm pt 2 10 now gk ga w hC hO (by simp) (by simp) hM hA n1 n2 n3 n4 n5 n6 p.ok (by decide) hmay htk hwt hcon hu hg).mono ?_
      rintro e w' ⟨rfl, h1, h2, h3, h4⟩
      obtain ⟨f1, f2⟩ := fin h4 h1 h2 h3
      refine ⟨f1, gk, fun k m t hk => ?_, Or.inl ⟨he, rfl, f2, p.on hn⟩⟩
      by_cases e : k = pt
      · subst e
        right
        by_cases ht : t + 50 ≤ now
        · exact ht
        · rw [lookF_t hk ht] at hu
          simp at hu
      · simp only [e, if_false]
        rcases hto k m t hk with h | h
        · exact Or.inl h
        · exact Or.inr (by omega)
  | some q =>
    obtain ⟨qa, qb, qp, qn, qc⟩ := q
    obtain ⟨hne, hqn, hq0, hq1⟩ := p.qa pt _ hg
    dsimp only at hqn hq0 hq1
    subst hqn
    have hrow := hR pt _ hg
    dsimp only at hrow
    have hln := p.len pt
    have hl0 : 0 < (gi pt).length := List.length_pos_iff.2 hne
    refine (take_tell_s C M A g 1 c 2 50 4 9 30 la wt 0 [10] fm pt 2 10 now gk ga w hC hO (by simp) (by simp) hM hA n1 n2 n3 n4 n5 n6 p.ok (by decide) hmay htk hwt hcon (by rw [hg]; simp) qa qb qp (gi pt).length qc hg (by omega) hl0 11 4 (by omega) p.kk (by decide) (by decide)).mono ?_
    rintro e w' ⟨rfl, h1, h2, h3, ht⟩
    have hrt : ∀ k p, ga k = some p → PR w' bw (.slice p.2.2.1 p.2.2.2.1 p.2.2.2.2) k (gi k) := fun k p hp => (hR k p hp).turn ht (fun b hb he => by have := (hR k p hp).ge b hb; omega)
    refine ⟨ht.below (by omega) (fun k hk he => by omega), _, htoP, Or.inr ⟨hne, qp, qc, _, rfl, hrt pt _ hg, ⟨h1, hO.turn ht (fun b hb he => by simp [Value.ownBlock] at hb; omega), h2, h3, ⟨tl, hT.turn ht (by omega), htl⟩, ⟨wl, hW.turn ht (by omega), hwl⟩, fun k => (hI k).turn ht (fun b hb he => by have := hge k b hb; omega), hd, ?_, Nat.le_trans hs ht.size⟩, hput.1, hput.2, ?_, ?_, ?_, ?_, by omega, by omega⟩⟩
    · intro k q hq
      by_cases e : k = pt
      · simp [e] at hq
      · simp only [e, if_false] at hq
        have : delG gi pt k = gi k := by unfold delG; simp [e]
        rw [this]
        exact hrt k q hq
    · intro k q hq
      by_cases e : k = pt
      · simp [e] at hq
      · simp only [e, if_false] at hq
        have : delG gi pt k = gi k := by unfold delG; simp [e]
        rw [this]
        have := p.qa k q hq
        exact ⟨this.1, this.2.1, this.2.2.1, by omega⟩
    · intro k hk
      unfold delG
      by_cases e : k = pt
      · simp [e]
      · simp only [e, if_false] at hk ⊢
        exact p.qn k hk
    · intro k hk
      unfold delG at hk
      by_cases e : k = pt
      · simp [e] at hk
      · simp only [e, if_false] at hk
        exact p.ky k hk
    · have h3 : pt = 11 ∨ pt = 12 ∨ pt = 13 ∨ pt = 14 := by omega
      unfold delG
      rcases h3 with rfl | rfl | rfl | rfl <;> simp <;> omega
/-- Of these, those that go to k. -/
def sub (L : List (Int × Int)) (k : Int) : List Int := (L.filter (fun e => e.1 == k)).map (·.2)
theorem sub_app (L L' : List (Int × Int)) (k : Int) : sub (L ++ L') k = sub L k ++ sub L' k := by unfold sub; simp
theorem sub_map (l : List Int) (a k : Int) : sub (l.map fun i => (a, i)) k = if a = k then l else [] := by
  unfold sub
  by_cases e : a = k
  · subst e
    rw [if_pos rfl, List.filter_eq_self.2 (by simp), List.map_map]
    exact List.map_id l
  · rw [if_neg e, List.filter_eq_nil_iff.2 (by simp [e])]
    rfl
theorem sub_lost (ga : Ga) (gi : Int → List Int) (now pa : Int) (k : Int) : ∀ ks : List Int, ks.Nodup → sub (lostL ga gi now pa ks) k = if k ∈ ks ∧ lostB ga now pa k = true then gi k else []
  | [], _ => by simp [lostL, sub]
  | a :: ks, h => by
    obtain ⟨h1, h2⟩ := List.nodup_cons.1 h
    have hc : lostL ga gi now pa (a :: ks) = (if lostB ga now pa a = true then (gi a).map fun i => (a, i) else []) ++ lostL ga gi now pa ks := by simp [lostL]
    rw [hc, sub_app, sub_lost ga gi now pa k ks h2]
    by_cases e : a = k
    · subst e
      by_cases hb : lostB ga now pa a = true
      · rw [if_pos hb, sub_map]; simp [hb, h1]
      · rw [if_neg hb]; simp [hb, sub]
    · have : sub (if lostB ga now pa a = true then (gi a).map fun i => (a, i) else []) k = [] := by
        split
        · rw [sub_map, if_neg e]
        · rfl
      rw [this, List.nil_append]
      have e2 : k ≠ a := fun h => e h.symm
      simp [e2]
theorem len_sub : ∀ L : List (Int × Int), (∀ e ∈ L, 11 ≤ e.1 ∧ e.1 < 15) → L.length = (sub L 11).length + (sub L 12).length + (sub L 13).length + (sub L 14).length
  | [], _ => by simp [sub]
  | e :: L, h => by
    have ih := len_sub L (fun x hx => h x (List.mem_cons_of_mem _ hx))
    have he := h e (List.mem_cons_self ..)
    obtain ⟨a, b⟩ := e
    dsimp only at he
    have h3 : a = 11 ∨ a = 12 ∨ a = 13 ∨ a = 14 := by omega
    unfold sub at ih ⊢
    rcases h3 with rfl | rfl | rfl | rfl <;> simp at ih ⊢ <;> omega
theorem lost_keys {la wt : Int} {gk : Int → Option (Int × Int)} {ga : Ga} {gi : Int → List Int} (p : OP la wt gk ga gi) (now pa : Int) (ks : List Int) : ∀ e ∈ lostL ga gi now pa ks, 11 ≤ e.1 ∧ e.1 < 15 := by
  intro e he
  unfold lostL at he
  obtain ⟨k, -, hk⟩ := List.mem_flatMap.1 he
  split at hk
  · rename_i hb
    obtain ⟨i, hi, rfl⟩ := List.mem_map.1 hk
    exact p.ky k (fun h => by rw [h] at hi; cases hi)
  · cases hk
def restG (ga : Ga) (gi : Int → List Int) (now pa : Int) : Int → List Int := fun k => if lostB ga now pa k = true then [] else gi k
set_option maxHeartbeats 2000000 in
theorem tick_once {n0 C M A g c TM WM bw : Nat} (K : KC n0 C M A g TM WM bw) {w : World} {la wt : Int} {gk : Int → Option (Int × Int)} {ga : Ga} {gi wi : Int → List Int} {tf : Int → Option Int} {wf : Int → Option Value} (h : (OW w C M A g c TM WM bw la wt gk ga gi wi tf wf)) (p : OP la wt gk ga gi) (now : Int) (hn : la ≤ now ∧ now ≤ 200) :
    Calls Try.prog 12 #[.pointer (some ⟨C, 0, none⟩), .int .i64 now] w fun e w' => Below n0 w w' ∧ ∃ (u v : Value) (L : List (Int × Int)) (ga' : Ga) (gi' : Int → List Int), e = .returned (.tuple #[u, v, .int .i64 0]) ∧ PX w' w.heap.size v L ∧ (∀ k, gi k = sub L k ++ gi' k) ∧ (∀ e ∈ L, 11 ≤ e.1 ∧ e.1 < 15) ∧ (L.length : Int) ≤ wt ∧ (OW w' C M A g c TM WM bw now (wt - L.length) gk ga' gi' wi tf wf) ∧ OP now (wt - L.length) gk ga' gi' := by
  obtain ⟨hC, hO, hM, hA, ⟨tl, hT, htl⟩, ⟨wl, hW, hwl⟩, hI, hd, hR, hs⟩ := h
  obtain ⟨⟨l1, l2, l3⟩, ⟨n1, n2, n3, n4, n5, n6⟩, m1, m2, m3, m4, m5, m6⟩ := K
  have p2 := p.l0
  have p3 := p.sm
  have p4 := p.le
  have hge := fun k b hb => ((hI k).ge b hb)
  have hsub : ∀ ks : List Int, ks.Nodup → ∀ k, (sub (lostL ga gi now 4 ks) k).length ≤ (gi k).length := fun ks hk k => by
    rw [sub_lost ga gi now 4 k ks hk]
    split <;> simp
  have hsum : ∀ ks : List Int, ks.Nodup → ((lostL ga gi now 4 ks).length : Int) ≤ wt := fun ks hk => by
    have h0 := len_sub _ (lost_keys p now 4 ks)
    have h1 := hsub ks hk 11
    have h2 := hsub ks hk 12
    have h3 := hsub ks hk 13
    have h4 := hsub ks hk 14
    omega
  refine (tick_any C M A g c 2 50 4 9 30 la wt 0 bw 10 now gk ga gi w hC hO hM hA n1 n2 n3 n4 n5 n6 (by omega) (by decide) (by omega) (fun k q hq => ?_) hR hsum (fun k h0 h5 => may_q ⟨h0, h5⟩)).mono ?_
  · have h1 := p.qa k q hq
    have h2 := p.len k
    have h3 := p.ky k h1.1
    exact ⟨⟨h1.1, h1.2.1, by omega⟩, ⟨h1.2.2.1, by omega⟩, by omega, by omega⟩
  · rintro e w' ⟨u, v, ks, rfl, hks, hkm, h1, h2, h3, h4, h5, ht⟩
    have hnd : ks.Nodup := hks.imp (fun h => by omega)
    have hlo : ∀ k, lostB ga now 4 k = true → k ∈ ks := fun k hk => (hkm k).2 (by
      unfold lostB at hk
      cases hg : ga k with
      | none => rw [hg] at hk; cases hk
      | some q => rfl)
    have hgi : ∀ k, gi k = sub (lostL ga gi now 4 ks) k ++ restG ga gi now 4 k := fun k => by
      rw [sub_lost ga gi now 4 k ks hnd]
      unfold restG
      by_cases hb : lostB ga now 4 k = true
      · simp [hb, hlo k hb]
      · simp [hb]
    have hlen := fun k => congrArg List.length (hgi k)
    simp only [List.length_append] at hlen
    have htk : ∀ k q, tickG ga now 4 k = some q → ∃ q0, ga k = some q0 ∧ q.2.2 = q0.2.2 ∧ restG ga gi now 4 k = gi k ∧ (q.1 = q0.1 ∨ q.1 = now) := fun k q hq => by
      unfold tickG at hq
      unfold restG lostB
      cases hg : ga k with
      | none => rw [hg] at hq; cases hq
      | some q0 =>
        rw [hg] at hq
        dsimp only at hq ⊢
        by_cases e1 : now - q0.1 < 4
        · rw [if_pos e1] at hq
          cases hq
          exact ⟨_, rfl, rfl, by simp [e1], Or.inl rfl⟩
        · rw [if_neg e1] at hq
          by_cases e2 : q0.2.1 = true
          · rw [if_pos e2] at hq; cases hq
          · rw [if_neg e2] at hq
            cases hq
            exact ⟨_, rfl, rfl, by simp [e2], Or.inr rfl⟩
    refine ⟨ht.below (by omega) (fun k hk he => by omega), u, v, _, _, restG ga gi now 4, rfl, h5, hgi, lost_keys p now 4 ks, hsum ks hnd, ⟨h1, h4, h2, h3, ⟨tl, hT.turn ht (by omega), htl⟩, ⟨wl, hW.turn ht (by omega), hwl⟩, fun k => (hI k).turn ht (fun b hb he => by have := hge k b hb; omega), hd, ?_, Nat.le_trans hs ht.size⟩, p.ok, p.kk, ?_, ?_, ?_, ?_, by omega, by omega⟩
    · intro k q hq
      obtain ⟨q0, g0, g1, g2, -⟩ := htk k q hq
      rw [g2, g1]
      exact (hR k q0 g0).turn ht (fun b hb he => by have := (hR k q0 g0).ge b hb; omega)
    · intro k q hq
      obtain ⟨q0, g0, g1, g2, g3⟩ := htk k q hq
      have := p.qa k q0 g0
      rw [g2, g1]
      exact ⟨this.1, this.2.1, by omega, by omega⟩
    · intro k hk
      unfold restG
      by_cases hb : lostB ga now 4 k = true
      · simp [hb]
      · rw [if_neg hb]
        refine p.qn k ?_
        cases hg : ga k with
        | none => rfl
        | some q0 =>
          exfalso
          unfold tickG at hk
          unfold lostB at hb
          rw [hg] at hk hb
          dsimp only at hk hb
          by_cases e1 : now - q0.1 < 4
          · rw [if_pos e1] at hk; cases hk
          · rw [if_neg e1] at hk
            by_cases e2 : q0.2.1 = true
            · simp [e1, e2] at hb
            · rw [if_neg e2] at hk; cases hk
    · intro k hk
      refine p.ky k (fun h => hk ?_)
      unfold restG
      rw [h]
      simp
    · have h0 := len_sub _ (lost_keys p now 4 ks)
      have e1 := hlen 11
      have e2 := hlen 12
      have e3 := hlen 13
      have e4 := hlen 14
      omega
end Go.Proofs.Ytjldcillackhdaa
