/- receive. -/
import Derived.Test.YtkclookpdngkoaaVd
namespace Go.Proofs.Ytkclookpdngkoaa.V
open Go.RowKit Go.Maps Go.Lib
set_option maxRecDepth 100000
set_option linter.unusedVariables false
set_option linter.unusedSimpArgs false


theorem run_ix (s : ByteArray) (i : Nat) (b : UInt8) (hx : s.data.toList[i]? = some b) : ∀ W, (Instr.index 9 (.string s) (.int .i64 (i : Int))).run Try.prog W = .ok (byV b) W := fun W => by
  obtain ⟨h, he⟩ := List.getElem?_eq_some_iff.1 hx
  have h' : i < s.size := by rwa [Array.length_toList] at h
  rw [run_index_string W 9 s .i64 i Try.underlying9, dif_pos ⟨by omega, by omega⟩]
  have e1 : (s[(i : Int).toNat]'(by simpa using h')) = b := by
    simp only [Int.toNat_natCast]
    rw [← he, Array.getElem_toList]
    rfl
  first | (rw [e1]; rfl) | (simp only [Int.toNat_natCast] at e1 ⊢; rw [e1]; rfl)
def offN (Q : Rq) (at_ : Int) : Nat := ((at_ - Q.next) % 4294967296).toNat
def apQ (Q : Rq) (d : Nat) (s : List UInt8) : Rq := { Q with ap := addAp Q.ap d s }
theorem addAp_empty {ap : Nat → Option UInt8} (h : ∀ d, ap d = none) (s : List UInt8) : Run (addAp ap 0 s) s := by
  refine ⟨fun i b hb => ?_, ?_⟩
  · unfold addAp; rw [h]; simp [hb]
  · unfold addAp; rw [h]; simp
set_option maxHeartbeats 1000000 in
theorem receive_any {w : World} {A : Bk} {q : Nat} {Q : Rq} (hX : QX w A q Q) (hf : Q.Fine) (at_ : Int) (s : ByteArray) (a0 : 0 ≤ at_) (a1 : at_ ≤ 4294967295) (hs : s.size = 0 ∨ offN Q at_ + s.size ≤ Q.room - Q.bs.length) (L : List UInt8) (hL : Run (addAp Q.ap (offN Q at_) s.data.toList) L) :
    Calls Try.prog 25 #[PQ q, .int .i64 at_, .string s] w fun e w' => e = .returned (.tuple #[]) ∧ ∃ A', QX w' A' q (goQ Q (addAp Q.ap (offN Q at_) s.data.toList) L) ∧ Turn A w w' ∧ Gr w.heap.size A A' := by
  obtain ⟨M, v, l, h⟩ := hX
  have n0 := hf.n0
  have n1 := hf.n1
  have r1 := hf.r1
  have hln := hf.ln
  have hsz : s.data.toList.length = s.size := Array.length_toList
  have hss : s.size ≤ 65536 := by omega
  have hbd : ∀ d, (Q.ap d).isSome = true → d < 65537 := fun d hd => by have := hf.ok d hd; omega
  have hbd2 : ∀ k d, (addAp Q.ap (offN Q at_) (s.data.toList.take k) d).isSome = true → d < 65537 := fun k d hd => by
    rcases addAp_some hd with h1 | h1
    · exact hbd d h1
    · rw [List.length_take] at h1; omega
  have hLl : L.length ≤ Q.room - Q.bs.length := by
    rcases Nat.eq_zero_or_pos L.length with e | e
    · omega
    · have h1 := hL.has (L.length - 1) _ (List.getElem?_eq_getElem (by omega))
      rcases addAp_some (x := L.length - 1) (by rw [h1]; rfl) with h2 | h2
      · have := hf.ok _ h2; omega
      · omega
  have hemp := rep_empty h.rep n0 (by omega) hbd
  obtain ⟨⟨c0, c1, c2, c3⟩, f0, f1, f2, f3⟩ := h.at4.four
  obtain ⟨av, cv, rfl, -⟩ := h.bo.shape
  have hlen := fun ty => h.vm.len Try.underlying54 ty
  by_cases hfast : at_ = Q.next ∧ l.length = 0
  · obtain ⟨hat, hl0⟩ := hfast
    have hd0 : offN Q at_ = 0 := by unfold offN; rw [hat]; simp
    rw [hd0] at hL ⊢
    have hnone := hemp.1 hl0
    have hLs : L = s.data.toList := hL.one (addAp_empty hnone _)
    subst hat
    have hlen' : ∀ ty, (Builtin.len_ #[54] ty #[.map (some M)]).run Try.prog w = .ok (.int .i64 0) w := fun ty => by rw [hlen ty, hl0]; rfl
    obtain ⟨v2, w2, e1, hbo2, hgr2, hloc⟩ := apps h.bo s (by omega) 50
    have ht2 : Turn (fun k => (Value.slice av Q.bs.length cv).ownBlock = some k) w w2 := Turn.of_grown hgr2 (fun j hj => Or.inl hj)
    have h42 := h.at4.turn ht2 (fun e => (h.av q e).2.1 rfl)
    have hvm2 := h.vm.turn ht2 (fun e => (h.av M e).2.2 rfl)
    obtain ⟨B2, hB2⟩ : ∃ x, x = Q.bs ++ s.data.toList := ⟨_, rfl⟩
    rw [← hB2] at hbo2
    obtain ⟨a2, b2, rfl, -⟩ := hbo2.shape
    have h43 := h42.set 2 (.slice a2 B2.length b2)
    obtain ⟨d2, d2f⟩ : w2.cell? ⟨q, 2, none⟩ = some (.slice av Q.bs.length cv) ∧ w2.frozen? ⟨q, 2, none⟩ = false := h42.2 2 _ rfl
    obtain ⟨m1, m1f⟩ : (w2.setCell ⟨q, 2, none⟩ (.slice a2 B2.length b2)).cell? ⟨q, 1, none⟩ = some (.int .i64 Q.next) ∧ (w2.setCell ⟨q, 2, none⟩ (.slice a2 B2.length b2)).frozen? ⟨q, 1, none⟩ = false := h43.2 1 _ rfl
    have hql := h.at4.1
    have hMl := h.vm.lt
    have hs2 := ht2.size
    have hnum := number_any Q.next s.size (w2.setCell ⟨q, 2, none⟩ (.slice a2 B2.length b2)) n0 n1 (by omega)
    have hHQ : Hid (∃ A', QX ((w2.setCell ⟨q, 2, none⟩ (.slice a2 B2.length b2)).setCell ⟨q, 1, none⟩ (.int .i64 ((Q.next + (s.size : Int)) % 4294967296))) A' q (goQ Q (addAp Q.ap 0 s.data.toList) L) ∧ Turn A w ((w2.setCell ⟨q, 2, none⟩ (.slice a2 B2.length b2)).setCell ⟨q, 1, none⟩ (.int .i64 ((Q.next + (s.size : Int)) % 4294967296))) ∧ Gr w.heap.size A A') := by
      have hav := withB_av (B := A) h.av hloc hql hMl
      have hqM : ¬ M = q := fun e => h.ne e.symm
      have hrl : l = [] := List.length_eq_zero_iff.1 hl0
      refine ⟨withB A (.slice a2 B2.length b2), ⟨M, .slice a2 B2.length b2, l, ?_⟩, ?_, withB_gr (Gr.refl _ _) (fun k hk => (h.av k hk).1) hloc (Nat.le_refl _)⟩
      · have e9 : goQ Q (addAp Q.ap 0 s.data.toList) L = ⟨Q.room, (Q.next + (s.size : Int)) % 4294967296, B2, fun _ => none⟩ := by
          unfold goQ
          rw [hLs, hsz, hB2]
          congr 1
          funext x
          unfold addAp
          rw [hnone]
          simp [hsz]
        rw [e9]
        exact ⟨(h42.set 2 _).set 1 _, (hvm2.turn (turn_set w2 q 2 _) hqM).turn (turn_set _ q 1 _) hqM, by rw [hrl]; exact rep_nil _, row_turn (row_turn hbo2 (turn_set w2 q 2 _) (fun k hk e => (hav k hk).2.1 e)) (turn_set _ q 1 _) (fun k hk e => (hav k hk).2.1 e), Or.inl h.aq, Or.inl h.aM, hav, withB_lw h.lw hbo2 (by simp; omega) (by simp)⟩
      · exact ((ht2.mono (fun k e => (h.av k e).1)).trans (turnA h.aq 2 _ _)).trans (turnA h.aq 1 _ _)
    clear hB2 hlen hemp hnone hLs hd0 hl0 hL hsz hbd hbd2 hLl hbo2 hvm2 hloc h43 h42 hs
    have HX := h
    clear h
    go_enter Try.func25, Try.ntmps25
    go_upto_region 2 with (first | (at_builtin; refine wpList_append_eq rfl _ _ rfl rfl rfl e1 ?_) | go_in)
    clear d2 d2f c0 c1 c2 c3 f0 f1 f2 f3
    generalize w2.setCell ⟨q, 2, none⟩ (.slice a2 B2.length b2) = w3 at *
    go_wp2_with fail
    refine hnum.mono ?_
    rintro e wz ⟨rfl, rfl⟩
    go_wp2
    (try simp only [Exit.inBlock, Exit.then]); refine bodyPost_ret (results_none rfl _ _ _) rfl ?_
    exact ⟨rfl, hHQ.out⟩
  · have hLx : Hid (Run (addAp Q.ap (offN Q at_) s.data.toList) L) := hL
    obtain ⟨ln, hln0⟩ : ∃ x : Int, x = (l.length : Int) := ⟨_, rfl⟩
    have hlen' : ∀ ty, (Builtin.len_ #[54] ty #[.map (some M)]).run Try.prog w = .ok (.int .i64 ln) w := fun ty => by rw [hlen ty, hln0]
    clear hlen
    by_cases hat : at_ = Q.next
    · have hne : (ln == 0) = false := by
        have : ¬ l.length = 0 := fun e => hfast ⟨hat, e⟩
        rw [hln0]; simpa using this
      have hae : (at_ == Q.next) = true := by simpa using hat
      have HA : Hid (at_ = Q.next) := hat
      clear hat hln0 hemp hfast
      go_enter Try.func25, Try.ntmps25
      go_wp2
      try go_frame
      clear hlen' c0 c1 c2 c3 f0 f1 f2 f3
      go_loopw [45] (fun s45 wr => ∃ (k : Nat) (l' : List Vn), k ≤ s.size ∧ s45 = .int .i64 (k : Int) ∧ QY wr A q (apQ Q (offN Q at_) (s.data.toList.take k)) M (.slice av Q.bs.length cv) l' ∧ Turn A w wr) (fun s45 _ => s.size - (RowKit.intOf s45).toNat)
      case atStart => exact ⟨0, l, Nat.zero_le _, rfl, by rw [List.take_zero, apQ, addAp_nil]; exact h, Turn.refl _⟩
      case round =>
        clear h hL
        obtain ⟨k, l', hk, rfl, hq, ht⟩ := hrel
        by_cases hks : k < s.size
        · obtain ⟨bb, hbb⟩ : ∃ b, s.data.toList[k]? = some b := ⟨_, List.getElem?_eq_getElem (by omega)⟩
          have hix := run_ix s k bb hbb
          have hdk : offN Q at_ + s.size ≤ 65536 := by omega
          have hkey : (at_ + (k : Int)) % 4294967296 = (Q.next + ((offN Q at_ + k : Nat) : Int)) % 4294967296 := by unfold offN; omega
          have hvl : vlk l' ((at_ + (k : Int)) % 4294967296) = (Q.ap (offN Q at_ + k)).map byV := by
            have h9 : vlk l' ((Q.next + ((offN Q at_ + k : Nat) : Int)) % 4294967296) = _ := rep_at hq.rep (offN Q at_ + k) (by omega) n0 (by show Q.next < 4294967296; omega)
            rw [hkey, h9]
            show (addAp Q.ap (offN Q at_) (s.data.toList.take k) (offN Q at_ + k)).map byV = _
            rw [addAp_at]
          have hlk := hq.vm.look2 (k := (at_ + (k : Int)) % 4294967296) (wf_num (by omega) (by omega))
          rw [hvl] at hlk
          have hnum := number_any at_ k wr a0 a1 (by omega)
          have c3 : wr.cell? ⟨q, 3, none⟩ = some (.map (some M)) := (hq.at4.2 3 _ rfl).1
          obtain ⟨key, hke⟩ : ∃ x, x = (at_ + (k : Int)) % 4294967296 := ⟨_, rfl⟩
          rw [← hke] at hlk hnum hkey hvl
          have hk0 : 0 ≤ key := by omega
          have hk1 : key < 4294967296 := by omega
          have HK : Hid (key = (Q.next + ((offN Q at_ + k : Nat) : Int)) % 4294967296) := hkey
          have HBB : Hid (s.data.toList[k]? = some bb) := hbb
          clear hke hkey hvl hbb
          cases hap : Q.ap (offN Q at_ + k) with
          | some b =>
            rw [hap] at hlk
            simp only [Option.map_some, Option.isSome_some, Option.getD_some] at hlk
            have HS : Hid ((Q.ap (offN Q at_ + k)).isSome = true) := by show _ = true; rw [hap]; rfl
            clear hap
            unfold byV at hlk
            go_wp2_with fail
            refine hnum.mono ?_
            rintro e wz ⟨rfl, rfl⟩
            go_wp2
            go_roundw
            case rel => exact ⟨k + 1, l', by omega, by simp, by rw [apQ, addAp_step_has HS.out]; exact hq, ht⟩
            case measure => first | omega | (simp only [RowKit.intOf]; omega) | (simp [RowKit.intOf]; omega)
          | none =>
            rw [hap] at hlk
            simp only [Option.map_none, Option.isSome_none, Option.getD_none] at hlk
            have HN : Hid (Q.ap (offN Q at_ + k) = none) := hap
            clear hap
            have hll := rep_len hq.rep hq.vm.2 (hbd2 k)
            obtain ⟨w1, hr1, hvm1, htn1⟩ := (hq.later (w' := wr.drew) (Below.refl _ _).drew).vm.put (k := key) Try.underlying54 (by omega) (wf_num hk0 hk1) (byV bb)
            have htn1 : Turn (fun j => j = M) wr w1 := htn1.undrew
            have hq1 : Hid (QY w1 A q (apQ Q (offN Q at_) (s.data.toList.take (k + 1))) M (.slice av Q.bs.length cv) (vput l' (key, byV bb))) := by
              refine ⟨hq.at4.turn htn1 hq.ne, hvm1, ?_, row_turn hq.bo htn1 (fun k hk e => (hq.av k hk).2.2 e), hq.aq, hq.aM, hq.av, hq.lw.size htn1.size⟩
              have h9 := hvm1.2
              rw [HK.out] at h9 ⊢
              rw [apQ, addAp_step_new HN.out HBB.out]
              exact rep_put hq.rep hq.vm.2 _ bb (by omega) n0 (by show Q.next < 4294967296; omega) h9
            have ht1 : Hid (Turn A w w1) := ht.trans (htn1.mono (fun k e => by rw [e]; exact hq.aM))
            have k3 : w1.cell? ⟨q, 3, none⟩ = some (.map (some M)) := (hq1.out.at4.2 3 _ rfl).1
            have c3' : wr.drew.cell? ⟨q, 3, none⟩ = some (.map (some M)) := c3
            clear hvm1 htn1
            go_wp2_with fail
            refine hnum.mono ?_
            rintro e wz ⟨rfl, rfl⟩
            go_upto_region 9 with fail
            refine wp_region_held_drew (S := (fun W => W.cell? ⟨q, 3, none⟩ = some (.map (some M)))) (by kernel_rfl) ?_ (fun hHeld => ?_)
            · first | exact c3' | assumption
            refine wpAnyH_take (i := 0) (oi := ({ dst := some 62, op := Go.Op.move (Go.Operand.tmp 0), type := 28, pos := "recvq.go:95", after := #[], guard := none } : Go.Oper)) (v := .pointer (some ⟨q, 0, none⟩)) rfl (by kernel_rfl) (by kernel_rfl) (by kernel_rfl) (fun _ _ _ h => h) (Or.inl ⟨by rfl, ?_⟩) (by assumption) ?_
            · intro wx hSw
              try dsimp only at hSw
              have u3 := hSw
              go_simp
              try with_reducible rfl
            try simp only [Act.put, List.setIfInBounds_toArray, List.set_cons_zero, List.set_cons_succ]
            refine wpAnyH_take (i := 1) (oi := ({ dst := some 63, op := Go.Op.nilCheck (Go.Operand.tmp 62), type := 0, pos := "recvq.go:95", after := #[{ on := 0, ground := Go.Ground.data }], guard := none } : Go.Oper)) (v := .pointer (some ⟨q, 0, none⟩)) rfl (by kernel_rfl) (by kernel_rfl) (by kernel_rfl) (fun _ _ _ h => h) (Or.inl ⟨by rfl, ?_⟩) (by assumption) ?_
            · intro wx hSw
              try dsimp only at hSw
              have u3 := hSw
              go_simp
              try with_reducible rfl
            try simp only [Act.put, List.setIfInBounds_toArray, List.set_cons_zero, List.set_cons_succ]
            refine wpAnyH_take (i := 2) (oi := ({ dst := some 64, op := Go.Op.fieldAddr 56 (Go.Operand.tmp 63) 3, type := 0, pos := "recvq.go:95", after := #[{ on := 1, ground := Go.Ground.data }], guard := none } : Go.Oper)) (v := .pointer (some ⟨q, 3, none⟩)) rfl (by kernel_rfl) (by kernel_rfl) (by kernel_rfl) (fun _ _ _ h => h) (Or.inl ⟨by rfl, ?_⟩) (by assumption) ?_
            · intro wx hSw
              try dsimp only at hSw
              have u3 := hSw
              go_simp
              try with_reducible rfl
            try simp only [Act.put, List.setIfInBounds_toArray, List.set_cons_zero, List.set_cons_succ]
            refine wpAnyH_take (i := 3) (oi := ({ dst := some 65, op := Go.Op.load 54 (Go.Operand.tmp 64), type := 54, pos := "recvq.go:95", after := #[{ on := 2, ground := Go.Ground.data }], guard := none } : Go.Oper)) (v := .map (some M)) rfl (by kernel_rfl) (by kernel_rfl) (by kernel_rfl) (fun _ _ _ h => h) (Or.inl ⟨by rfl, ?_⟩) (by assumption) ?_
            · intro wx hSw
              try dsimp only at hSw
              have u3 := hSw
              go_simp
              try with_reducible rfl
            try simp only [Act.put, List.setIfInBounds_toArray, List.set_cons_zero, List.set_cons_succ]
            refine wpAnyH_take (i := 4) (oi := ({ dst := some 66, op := Go.Op.move (Go.Operand.tmp 7), type := 3, pos := "recvq.go:95", after := #[], guard := none } : Go.Oper)) (v := .int .i64 key) rfl (by kernel_rfl) (by kernel_rfl) (by kernel_rfl) (fun _ _ _ h => h) (Or.inl ⟨by rfl, ?_⟩) (by assumption) ?_
            · intro wx hSw
              try dsimp only at hSw
              have u3 := hSw
              go_simp
              try with_reducible rfl
            try simp only [Act.put, List.setIfInBounds_toArray, List.set_cons_zero, List.set_cons_succ]
            refine wpAnyH_take (i := 5) (oi := ({ dst := some 67, op := Go.Op.move (Go.Operand.tmp 2), type := 9, pos := "recvq.go:95", after := #[], guard := none } : Go.Oper)) (v := .string s) rfl (by kernel_rfl) (by kernel_rfl) (by kernel_rfl) (fun _ _ _ h => h) (Or.inl ⟨by rfl, ?_⟩) (by assumption) ?_
            · intro wx hSw
              try dsimp only at hSw
              have u3 := hSw
              go_simp
              try with_reducible rfl
            try simp only [Act.put, List.setIfInBounds_toArray, List.set_cons_zero, List.set_cons_succ]
            refine wpAnyH_take (i := 6) (oi := ({ dst := some 68, op := Go.Op.move (Go.Operand.tmp 6), type := 3, pos := "recvq.go:95", after := #[], guard := none } : Go.Oper)) (v := .int .i64 (k : Int)) rfl (by kernel_rfl) (by kernel_rfl) (by kernel_rfl) (fun _ _ _ h => h) (Or.inl ⟨by rfl, ?_⟩) (by assumption) ?_
            · intro wx hSw
              try dsimp only at hSw
              have u3 := hSw
              go_simp
              try with_reducible rfl
            try simp only [Act.put, List.setIfInBounds_toArray, List.set_cons_zero, List.set_cons_succ]
            refine wpAnyH_take (i := 7) (oi := ({ dst := some 69, op := Go.Op.index 9 (Go.Operand.tmp 67) (Go.Operand.tmp 68), type := 5, pos := "recvq.go:95", after := #[{ on := 5, ground := Go.Ground.data }, { on := 6, ground := Go.Ground.data }], guard := none } : Go.Oper)) (v := byV bb) rfl (by kernel_rfl) (by kernel_rfl) (by kernel_rfl) (fun _ _ _ h => h) (Or.inl ⟨by rfl, ?_⟩) (by assumption) ?_
            · intro wx hSw
              try dsimp only at hSw
              have u3 := hSw
              go_simp
              try with_reducible rfl
            try simp only [Act.put, List.setIfInBounds_toArray, List.set_cons_zero, List.set_cons_succ]
            refine wpAnyH_ready (rs := [8]) (by kernel_rfl) (by simp) ?_
            refine AllReadyH.cons (o := ({ dst := none, op := Go.Op.mapUpdate 54 (Go.Operand.tmp 65) (Go.Operand.tmp 66) (Go.Operand.tmp 69), type := 0, pos := "recvq.go:95", after := #[{ on := 3, ground := Go.Ground.data }, { on := 4, ground := Go.Ground.data }, { on := 7, ground := Go.Ground.data }, { on := 0, ground := Go.Ground.phase }, { on := 1, ground := Go.Ground.phase }, { on := 2, ground := Go.Ground.phase }, { on := 3, ground := Go.Ground.phase }, { on := 4, ground := Go.Ground.phase }, { on := 5, ground := Go.Ground.phase }, { on := 6, ground := Go.Ground.phase }, { on := 7, ground := Go.Ground.phase }], guard := none } : Go.Oper)) rfl (fun K hK => ?_) AllReadyH.nil
            refine step_update (by rfl) _ _ _ (by rfl) (by rfl) (by rfl) (by rfl) hr1 ?_
            refine hK.out _ _ k3 (fun hHeld => ?_)
            clear hK K
            try simp only [Act.put, List.setIfInBounds_toArray, List.set_cons_zero, List.set_cons_succ]
            refine wpAnyH_done (by kernel_rfl) ?_ _
            clear hr1 c3 c3' k3 hlk
            go_wp2
            go_roundw
            case rel => exact ⟨k + 1, _, by omega, by simp, hq1.out, ht1.out⟩
            case measure => first | omega | (simp only [RowKit.intOf]; omega) | (simp [RowKit.intOf]; omega)
        · obtain rfl : k = s.size := by omega
          rw [← hsz, List.take_length] at hq
          go_wp2_with fail
          refine (goOn_any hq n0 n1 (fun d hd => hbd2 s.data.toList.length d (by rw [List.take_length]; exact hd)) L hLx.out (by show Q.bs.length + L.length ≤ 70000; omega)).mono ?_
          rintro e w2 ⟨rfl, A2, v2, l2, hq2, ht2, hg2⟩
          go_wp2
          go_end0
          exact ⟨rfl, A2, ⟨M, v2, l2, hq2⟩, ht.trans ht2, fun k hk => (hg2 k hk).imp id (fun e => Nat.le_trans ht.size e)⟩
    · have hae : (at_ == Q.next) = false := by simpa using hat
      clear hat hln0 hemp hfast
      go_enter Try.func25, Try.ntmps25
      go_wp2
      try go_frame
      clear hlen' c0 c1 c2 c3 f0 f1 f2 f3
      go_loopw [45] (fun s45 wr => ∃ (k : Nat) (l' : List Vn), k ≤ s.size ∧ s45 = .int .i64 (k : Int) ∧ QY wr A q (apQ Q (offN Q at_) (s.data.toList.take k)) M (.slice av Q.bs.length cv) l' ∧ Turn A w wr) (fun s45 _ => s.size - (RowKit.intOf s45).toNat)
      case atStart => exact ⟨0, l, Nat.zero_le _, rfl, by rw [List.take_zero, apQ, addAp_nil]; exact h, Turn.refl _⟩
      case round =>
        clear h hL
        obtain ⟨k, l', hk, rfl, hq, ht⟩ := hrel
        by_cases hks : k < s.size
        · obtain ⟨bb, hbb⟩ : ∃ b, s.data.toList[k]? = some b := ⟨_, List.getElem?_eq_getElem (by omega)⟩
          have hix := run_ix s k bb hbb
          have hdk : offN Q at_ + s.size ≤ 65536 := by omega
          have hkey : (at_ + (k : Int)) % 4294967296 = (Q.next + ((offN Q at_ + k : Nat) : Int)) % 4294967296 := by unfold offN; omega
          have hvl : vlk l' ((at_ + (k : Int)) % 4294967296) = (Q.ap (offN Q at_ + k)).map byV := by
            have h9 : vlk l' ((Q.next + ((offN Q at_ + k : Nat) : Int)) % 4294967296) = _ := rep_at hq.rep (offN Q at_ + k) (by omega) n0 (by show Q.next < 4294967296; omega)
            rw [hkey, h9]
            show (addAp Q.ap (offN Q at_) (s.data.toList.take k) (offN Q at_ + k)).map byV = _
            rw [addAp_at]
          have hlk := hq.vm.look2 (k := (at_ + (k : Int)) % 4294967296) (wf_num (by omega) (by omega))
          rw [hvl] at hlk
          have hnum := number_any at_ k wr a0 a1 (by omega)
          have c3 : wr.cell? ⟨q, 3, none⟩ = some (.map (some M)) := (hq.at4.2 3 _ rfl).1
          obtain ⟨key, hke⟩ : ∃ x, x = (at_ + (k : Int)) % 4294967296 := ⟨_, rfl⟩
          rw [← hke] at hlk hnum hkey hvl
          have hk0 : 0 ≤ key := by omega
          have hk1 : key < 4294967296 := by omega
          have HK : Hid (key = (Q.next + ((offN Q at_ + k : Nat) : Int)) % 4294967296) := hkey
          have HBB : Hid (s.data.toList[k]? = some bb) := hbb
          clear hke hkey hvl hbb
          cases hap : Q.ap (offN Q at_ + k) with
          | some b =>
            rw [hap] at hlk
            simp only [Option.map_some, Option.isSome_some, Option.getD_some] at hlk
            have HS : Hid ((Q.ap (offN Q at_ + k)).isSome = true) := by show _ = true; rw [hap]; rfl
            clear hap
            unfold byV at hlk
            go_wp2_with fail
            refine hnum.mono ?_
            rintro e wz ⟨rfl, rfl⟩
            go_wp2
            go_roundw
            case rel => exact ⟨k + 1, l', by omega, by simp, by rw [apQ, addAp_step_has HS.out]; exact hq, ht⟩
            case measure => first | omega | (simp only [RowKit.intOf]; omega) | (simp [RowKit.intOf]; omega)
          | none =>
            rw [hap] at hlk
            simp only [Option.map_none, Option.isSome_none, Option.getD_none] at hlk
            have HN : Hid (Q.ap (offN Q at_ + k) = none) := hap
            clear hap
            have hll := rep_len hq.rep hq.vm.2 (hbd2 k)
            obtain ⟨w1, hr1, hvm1, htn1⟩ := (hq.later (w' := wr.drew) (Below.refl _ _).drew).vm.put (k := key) Try.underlying54 (by omega) (wf_num hk0 hk1) (byV bb)
            have htn1 : Turn (fun j => j = M) wr w1 := htn1.undrew
            have hq1 : Hid (QY w1 A q (apQ Q (offN Q at_) (s.data.toList.take (k + 1))) M (.slice av Q.bs.length cv) (vput l' (key, byV bb))) := by
              refine ⟨hq.at4.turn htn1 hq.ne, hvm1, ?_, row_turn hq.bo htn1 (fun k hk e => (hq.av k hk).2.2 e), hq.aq, hq.aM, hq.av, hq.lw.size htn1.size⟩
              have h9 := hvm1.2
              rw [HK.out] at h9 ⊢
              rw [apQ, addAp_step_new HN.out HBB.out]
              exact rep_put hq.rep hq.vm.2 _ bb (by omega) n0 (by show Q.next < 4294967296; omega) h9
            have ht1 : Hid (Turn A w w1) := ht.trans (htn1.mono (fun k e => by rw [e]; exact hq.aM))
            have k3 : w1.cell? ⟨q, 3, none⟩ = some (.map (some M)) := (hq1.out.at4.2 3 _ rfl).1
            have c3' : wr.drew.cell? ⟨q, 3, none⟩ = some (.map (some M)) := c3
            clear hvm1 htn1
            go_wp2_with fail
            refine hnum.mono ?_
            rintro e wz ⟨rfl, rfl⟩
            go_upto_region 9 with fail
            refine wp_region_held_drew (S := (fun W => W.cell? ⟨q, 3, none⟩ = some (.map (some M)))) (by kernel_rfl) ?_ (fun hHeld => ?_)
            · first | exact c3' | assumption
            refine wpAnyH_take (i := 0) (oi := ({ dst := some 62, op := Go.Op.move (Go.Operand.tmp 0), type := 28, pos := "recvq.go:95", after := #[], guard := none } : Go.Oper)) (v := .pointer (some ⟨q, 0, none⟩)) rfl (by kernel_rfl) (by kernel_rfl) (by kernel_rfl) (fun _ _ _ h => h) (Or.inl ⟨by rfl, ?_⟩) (by assumption) ?_
            · intro wx hSw
              try dsimp only at hSw
              have u3 := hSw
              go_simp
              try with_reducible rfl
            try simp only [Act.put, List.setIfInBounds_toArray, List.set_cons_zero, List.set_cons_succ]
            refine wpAnyH_take (i := 1) (oi := ({ dst := some 63, op := Go.Op.nilCheck (Go.Operand.tmp 62), type := 0, pos := "recvq.go:95", after := #[{ on := 0, ground := Go.Ground.data }], guard := none } : Go.Oper)) (v := .pointer (some ⟨q, 0, none⟩)) rfl (by kernel_rfl) (by kernel_rfl) (by kernel_rfl) (fun _ _ _ h => h) (Or.inl ⟨by rfl, ?_⟩) (by assumption) ?_
            · intro wx hSw
              try dsimp only at hSw
              have u3 := hSw
              go_simp
              try with_reducible rfl
            try simp only [Act.put, List.setIfInBounds_toArray, List.set_cons_zero, List.set_cons_succ]
            refine wpAnyH_take (i := 2) (oi := ({ dst := some 64, op := Go.Op.fieldAddr 56 (Go.Operand.tmp 63) 3, type := 0, pos := "recvq.go:95", after := #[{ on := 1, ground := Go.Ground.data }], guard := none } : Go.Oper)) (v := .pointer (some ⟨q, 3, none⟩)) rfl (by kernel_rfl) (by kernel_rfl) (by kernel_rfl) (fun _ _ _ h => h) (Or.inl ⟨by rfl, ?_⟩) (by assumption) ?_
            · intro wx hSw
              try dsimp only at hSw
              have u3 := hSw
              go_simp
              try with_reducible rfl
            try simp only [Act.put, List.setIfInBounds_toArray, List.set_cons_zero, List.set_cons_succ]
            refine wpAnyH_take (i := 3) (oi := ({ dst := some 65, op := Go.Op.load 54 (Go.Operand.tmp 64), type := 54, pos := "recvq.go:95", after := #[{ on := 2, ground := Go.Ground.data }], guard := none } : Go.Oper)) (v := .map (some M)) rfl (by kernel_rfl) (by kernel_rfl) (by kernel_rfl) (fun _ _ _ h => h) (Or.inl ⟨by rfl, ?_⟩) (by assumption) ?_
            · intro wx hSw
              try dsimp only at hSw
              have u3 := hSw
              go_simp
              try with_reducible rfl
            try simp only [Act.put, List.setIfInBounds_toArray, List.set_cons_zero, List.set_cons_succ]
            refine wpAnyH_take (i := 4) (oi := ({ dst := some 66, op := Go.Op.move (Go.Operand.tmp 7), type := 3, pos := "recvq.go:95", after := #[], guard := none } : Go.Oper)) (v := .int .i64 key) rfl (by kernel_rfl) (by kernel_rfl) (by kernel_rfl) (fun _ _ _ h => h) (Or.inl ⟨by rfl, ?_⟩) (by assumption) ?_
            · intro wx hSw
              try dsimp only at hSw
              have u3 := hSw
              go_simp
              try with_reducible rfl
            try simp only [Act.put, List.setIfInBounds_toArray, List.set_cons_zero, List.set_cons_succ]
            refine wpAnyH_take (i := 5) (oi := ({ dst := some 67, op := Go.Op.move (Go.Operand.tmp 2), type := 9, pos := "recvq.go:95", after := #[], guard := none } : Go.Oper)) (v := .string s) rfl (by kernel_rfl) (by kernel_rfl) (by kernel_rfl) (fun _ _ _ h => h) (Or.inl ⟨by rfl, ?_⟩) (by assumption) ?_
            · intro wx hSw
              try dsimp only at hSw
              have u3 := hSw
              go_simp
              try with_reducible rfl
            try simp only [Act.put, List.setIfInBounds_toArray, List.set_cons_zero, List.set_cons_succ]
            refine wpAnyH_take (i := 6) (oi := ({ dst := some 68, op := Go.Op.move (Go.Operand.tmp 6), type := 3, pos := "recvq.go:95", after := #[], guard := none } : Go.Oper)) (v := .int .i64 (k : Int)) rfl (by kernel_rfl) (by kernel_rfl) (by kernel_rfl) (fun _ _ _ h => h) (Or.inl ⟨by rfl, ?_⟩) (by assumption) ?_
            · intro wx hSw
              try dsimp only at hSw
              have u3 := hSw
              go_simp
              try with_reducible rfl
            try simp only [Act.put, List.setIfInBounds_toArray, List.set_cons_zero, List.set_cons_succ]
            refine wpAnyH_take (i := 7) (oi := ({ dst := some 69, op := Go.Op.index 9 (Go.Operand.tmp 67) (Go.Operand.tmp 68), type := 5, pos := "recvq.go:95", after := #[{ on := 5, ground := Go.Ground.data }, { on := 6, ground := Go.Ground.data }], guard := none } : Go.Oper)) (v := byV bb) rfl (by kernel_rfl) (by kernel_rfl) (by kernel_rfl) (fun _ _ _ h => h) (Or.inl ⟨by rfl, ?_⟩) (by assumption) ?_
            · intro wx hSw
              try dsimp only at hSw
              have u3 := hSw
              go_simp
              try with_reducible rfl
            try simp only [Act.put, List.setIfInBounds_toArray, List.set_cons_zero, List.set_cons_succ]
            refine wpAnyH_ready (rs := [8]) (by kernel_rfl) (by simp) ?_
            refine AllReadyH.cons (o := ({ dst := none, op := Go.Op.mapUpdate 54 (Go.Operand.tmp 65) (Go.Operand.tmp 66) (Go.Operand.tmp 69), type := 0, pos := "recvq.go:95", after := #[{ on := 3, ground := Go.Ground.data }, { on := 4, ground := Go.Ground.data }, { on := 7, ground := Go.Ground.data }, { on := 0, ground := Go.Ground.phase }, { on := 1, ground := Go.Ground.phase }, { on := 2, ground := Go.Ground.phase }, { on := 3, ground := Go.Ground.phase }, { on := 4, ground := Go.Ground.phase }, { on := 5, ground := Go.Ground.phase }, { on := 6, ground := Go.Ground.phase }, { on := 7, ground := Go.Ground.phase }], guard := none } : Go.Oper)) rfl (fun K hK => ?_) AllReadyH.nil
            refine step_update (by rfl) _ _ _ (by rfl) (by rfl) (by rfl) (by rfl) hr1 ?_
            refine hK.out _ _ k3 (fun hHeld => ?_)
            clear hK K
            try simp only [Act.put, List.setIfInBounds_toArray, List.set_cons_zero, List.set_cons_succ]
            refine wpAnyH_done (by kernel_rfl) ?_ _
            clear hr1 c3 c3' k3 hlk
            go_wp2
            go_roundw
            case rel => exact ⟨k + 1, _, by omega, by simp, hq1.out, ht1.out⟩
            case measure => first | omega | (simp only [RowKit.intOf]; omega) | (simp [RowKit.intOf]; omega)
        · obtain rfl : k = s.size := by omega
          rw [← hsz, List.take_length] at hq
          go_wp2_with fail
          refine (goOn_any hq n0 n1 (fun d hd => hbd2 s.data.toList.length d (by rw [List.take_length]; exact hd)) L hLx.out (by show Q.bs.length + L.length ≤ 70000; omega)).mono ?_
          rintro e w2 ⟨rfl, A2, v2, l2, hq2, ht2, hg2⟩
          go_wp2
          go_end0
          exact ⟨rfl, A2, ⟨M, v2, l2, hq2⟩, ht.trans ht2, fun k hk => (hg2 k hk).imp id (fun e => Nat.le_trans ht.size e)⟩
end Go.Proofs.Ytkclookpdngkoaa.V
