/- New; keep, get, drop, add, grow. -/
import Derived.Test.YtadmpdeegnppjaaGreatDoorAf
namespace Go.Proofs.YtadmpdeegnppjaaGreatDoor
open Go.RowKit Go.Maps Go.Shelf Go.Lib
set_option maxRecDepth 100000
set_option linter.unusedVariables false
set_option linter.unusedSimpArgs false


theorem zeroV (w : World) : (zeroValue 46).run Tryz.prog w = .ok (encV []) w := by kernel_rfl
theorem fieldV (x : ByteArray) (W : World) : (Instr.field 46 (.agg #[.string x]) 0).run Tryz.prog W = .ok (.string x) W := by kernel_rfl
section
variable {w w' : World} {A : Bk} {b M : Nat} {v : Value} {s : St}
theorem klen {k : By} (hk : k.length ≤ 32) : k.length ≤ maxLen := by unfold maxLen; omega
set_option maxHeartbeats 1000000 in
theorem keep_any (h : SY w A b M v s) (hO : OkM s.m) (k t told : By) (hk : k.length ≤ 32) :
    Calls Tryz.prog 45 #[PB b, .string (B k), .string (B t), .string (B told)] w fun e w' => e = .returned (.string (B (keepF s.m k t told).1)) ∧ SY w' A b M v ⟨(keepF s.m k t told).2, s.line, s.long, s.over⟩ ∧ Turn A w w' := by
  have hkm := klen hk
  have hn6 : s.m.length < 1000000 := by have := hO.size; omega
  obtain ⟨hlt, ⟨c0, -, -, -⟩, -⟩ := h.at_.four
  have hlen : ∀ o, (Builtin.len_ #[40] 3 #[.map (some M)]).run Tryz.prog (w.alloc o) = .ok (.int .i64 s.m.length) (w.alloc o) := fun o => (h.vm.later (bel1 w o)).len Tryz.underlying40 3
  cases hg : mget s.m k with
  | none =>
    by_cases hl : 64 ≤ s.m.length
    · have hr : keepF s.m k t told = (bFULL, s.m) := if_pos ⟨hg, hl⟩
      rw [hr]
      have hl' : (64 : Int) ≤ (s.m.length : Int) := by omega
      have HF : Hid (∀ o, SY (w.alloc o) A b M v s ∧ Turn A w (w.alloc o)) := fun o => ⟨h.later (bel1 w o), Turn.of_below (bel1 w o)⟩
      go_enter Tryz.func45, Tryz.ntmps45
      go_wp2_with (refine wpList_lookup_vs rfl _ _ rfl M s.m k hkm Tryz.underlying40 zeroV rfl (h.vm) rfl ?_; rw [hg]; simp only [Option.map, Option.getD, Option.isSome])
      clear h hg
      go_wp2
      go_ret
      exact ⟨rfl, HF.out _⟩
    · have hr : keepF s.m k t told = (told, mput s.m (k, t)) := if_neg (fun q => hl q.2)
      rw [hr]
      have hl' : ¬ (64 : Int) ≤ (s.m.length : Int) := by omega
      have HF : Hid (SY w A b M v s) := h
      go_enter Tryz.func45, Tryz.ntmps45
      go_wp2_with (first | (refine wpList_lookup_vs rfl _ _ rfl M s.m k hkm Tryz.underlying40 zeroV rfl (h.vm) rfl ?_; rw [hg]; simp only [Option.map, Option.getD, Option.isSome]) | (refine wpList_put_vs (enc := encV) rfl _ _ _ rfl M s.m k t hkm Tryz.underlying40 hn6 rfl (h.vm.later (bel1 _ _)) rfl rfl ?_; intro w2 hv2 ht2))
      clear h hg
      go_wp2
      go_ret
      exact ⟨rfl, (HF.out.later (bel1 w _)).put hv2 ht2, (Turn.of_below (bel1 w _)).trans ((HF.out.later (bel1 w _)).tM ht2)⟩
  | some y =>
    have hr : keepF s.m k t told = (told, mput s.m (k, t)) := if_neg (fun q => by rw [hg] at q; cases q.1)
    rw [hr]
    have HF : Hid (SY w A b M v s) := h
    go_enter Tryz.func45, Tryz.ntmps45
    go_wp2_with (first | (refine wpList_lookup_vs rfl _ _ rfl M s.m k hkm Tryz.underlying40 zeroV rfl (h.vm) rfl ?_; rw [hg]; simp only [Option.map, Option.getD, Option.isSome]) | (refine wpList_put_vs (enc := encV) rfl _ _ _ rfl M s.m k t hkm Tryz.underlying40 hn6 rfl (h.vm.later (bel1 _ _)) rfl rfl ?_; intro w2 hv2 ht2))
    clear h hg
    go_wp2
    go_ret
    exact ⟨rfl, (HF.out.later (bel1 w _)).put hv2 ht2, (Turn.of_below (bel1 w _)).trans ((HF.out.later (bel1 w _)).tM ht2)⟩
set_option maxHeartbeats 1000000 in
theorem get_any (h : SY w A b M v s) (hO : OkM s.m) (k : By) (hk : k.length ≤ 32) :
    Calls Tryz.prog 46 #[PB b, .string (B k)] w fun e w' => e = .returned (.string (B (getF s.m k))) ∧ Below w.heap.size w w' := by
  have hkm := klen hk
  obtain ⟨hlt, ⟨c0, -, -, -⟩, -⟩ := h.at_.four
  cases hg : mget s.m k with
  | none =>
    have hr : getF s.m k = bNONE := by unfold getF; rw [hg]
    rw [hr]
    go_enter Tryz.func46, Tryz.ntmps46
    go_wp2_with (refine wpList_lookup_vs rfl _ _ rfl M s.m k hkm Tryz.underlying40 zeroV rfl (h.vm) rfl ?_; rw [hg]; simp only [Option.map, Option.getD, Option.isSome])
    clear h hg
    go_wp2
    go_ret
    exact ⟨rfl, bel1 w _⟩
  | some y =>
    have hr : getF s.m k = bVALUE ++ y := by unfold getF; rw [hg]
    rw [hr]
    have hy := (hO.keys _ (mget_mem hg)).2
    have hc := fun W => valued_any y W (by simp only at hy; omega)
    go_enter Tryz.func46, Tryz.ntmps46
    go_wp2_with (refine wpList_lookup_vs rfl _ _ rfl M s.m k hkm Tryz.underlying40 zeroV rfl (h.vm) rfl ?_; rw [hg]; simp only [Option.map, Option.getD, Option.isSome])
    clear h hg
    go_wp2_with fail
    refine (hc _).mono ?_
    rintro e w1 ⟨rfl, rfl⟩
    go_wp2
    go_ret
    exact ⟨rfl, bel1 w _⟩
set_option maxHeartbeats 1000000 in
theorem drop_any (h : SY w A b M v s) (hO : OkM s.m) (k : By) (hk : k.length ≤ 32) :
    Calls Tryz.prog 47 #[PB b, .string (B k)] w fun e w' => e = .returned (.string (B (dropF s.m k).1)) ∧ SY w' A b M v ⟨(dropF s.m k).2, s.line, s.long, s.over⟩ ∧ Turn A w w' := by
  have hkm := klen hk
  obtain ⟨hlt, ⟨c0, -, -, -⟩, -⟩ := h.at_.four
  have HF : Hid (SY w A b M v s) := h
  cases hg : mget s.m k with
  | none =>
    have hr : dropF s.m k = (bNONE, s.m) := by unfold dropF; rw [hg]
    rw [hr]
    go_enter Tryz.func47, Tryz.ntmps47
    go_wp2_with (refine wpList_lookup_vs rfl _ _ rfl M s.m k hkm Tryz.underlying40 zeroV rfl (h.vm) rfl ?_; rw [hg]; simp only [Option.map, Option.getD, Option.isSome])
    clear h hg
    go_wp2
    go_ret
    exact ⟨rfl, HF.out.later (bel1 w _), Turn.of_below (bel1 w _)⟩
  | some y =>
    have hr : dropF s.m k = (bOK, mdel s.m k) := by unfold dropF; rw [hg]
    rw [hr]
    go_enter Tryz.func47, Tryz.ntmps47
    go_wp2_with (first | (refine wpList_lookup_vs rfl _ _ rfl M s.m k hkm Tryz.underlying40 zeroV rfl (h.vm) rfl ?_; rw [hg]; simp only [Option.map, Option.getD, Option.isSome]) | (refine wpList_delete_vs (enc := encV) rfl _ _ rfl M s.m k hkm Tryz.underlying40 rfl (h.vm.later (bel1 _ _)) rfl ?_; intro w2 hv2 ht2))
    clear h hg
    go_wp2
    go_ret
    exact ⟨rfl, (HF.out.later (bel1 w _)).put hv2 ht2, (Turn.of_below (bel1 w _)).trans ((HF.out.later (bel1 w _)).tM ht2)⟩
theorem look_val (h : SY w A b M v s) (k : By) (hk : k.length ≤ 32) : (Instr.lookup 40 (.map (some M)) (.string (B k)) false).run Tryz.prog w = .ok (.agg #[.string (B (valF s.m k))]) w := by
  rw [h.vm.look Tryz.underlying40 zeroV (klen hk)]
  unfold valF
  cases mget s.m k <;> rfl
set_option maxHeartbeats 1000000 in
theorem grow_any (h : SY w A b M v s) (hE : Env w) (hO : OkM s.m) (k t : By) (hk : k.length ≤ 32) (ht : t.length ≤ 1000000) :
    Calls Tryz.prog 51 #[PB b, .string (B k), .string (B t)] w fun e w' => e = .returned (.string (B (growF s.m k t).1)) ∧ SY w' A b M v ⟨(growF s.m k t).2, s.line, s.long, s.over⟩ ∧ Turn A w w' := by
  have hvl := val_len hO k
  have hfl := fieldV (B (valF s.m k)) w
  have hlk := look_val h k hk
  obtain ⟨hlt, ⟨c0, -, -, -⟩, -⟩ := h.at_.four
  have HF : Hid (SY w A b M v s) := h
  have hz1 : (B (valF s.m k)).size ≤ 300 := by rw [B_size]; exact hvl
  have hz2 : (B t).size ≤ 1000000 := by rw [B_size]; exact ht
  have hap := B_app (valF s.m k) t
  by_cases hl : 200 < (valF s.m k ++ t).length
  · have hr : growF s.m k t = (bFULL, s.m) := if_pos hl
    rw [hr]
    have hl' : (200 : Int) < ((B (valF s.m k)).size + (B t).size : Int) := by rw [B_size, B_size]; rw [List.length_append] at hl; omega
    clear h hap hl
    go_enter Tryz.func51, Tryz.ntmps51
    go_wp2
    go_ret
    exact ⟨rfl, HF.out, Turn.refl _⟩
  · have hr : growF s.m k t = keepF s.m k (valF s.m k ++ t) (bCOUNT ++ Go.Lib.itoa ((valF s.m k ++ t).length : Int)) := if_neg hl
    rw [hr]
    have hl' : ¬ (200 : Int) < ((B (valF s.m k)).size + (B t).size : Int) := by rw [B_size, B_size]; rw [List.length_append] at hl; omega
    have hsum : ((B (valF s.m k)).size : Int) + ((B t).size : Int) = ((valF s.m k ++ t).length : Int) := by rw [B_size, B_size, List.length_append]; omega
    clear h hr
    generalize valF s.m k ++ t = x at hap hsum hl ⊢
    have hcn := counted_any hE (x.length : Int) (by omega) (by omega)
    generalize hq : bCOUNT ++ Go.Lib.itoa (x.length : Int) = y at hcn ⊢
    have hkp := fun (W : World) (hW : SY W A b M v s) => keep_any hW hO k x y hk
    have HP : Hid _ := hap
    have HS : Hid _ := hsum
    clear hap hl hsum hq
    go_enter Tryz.func51, Tryz.ntmps51
    go_wp2_with fail
    rw [show (Value.int IntKind.i64 (((B (valF s.m k)).size : Int) + ((B t).size : Int))) = Value.int IntKind.i64 (x.length : Int) from congrArg _ HS.out]
    refine hcn.mono ?_
    rintro e w1 ⟨rfl, hb⟩
    go_wp2_with fail
    rw [HP.out]
    refine (hkp w1 (HF.out.later hb)).mono ?_
    rintro e w2 ⟨rfl, h2, t2⟩
    go_wp2
    go_ret
    exact ⟨rfl, h2, (Turn.of_below hb).trans t2⟩
set_option maxHeartbeats 1000000 in
theorem add_any (h : SY w A b M v s) (hE : Env w) (hO : OkM s.m) (k t : By) (hk : k.length ≤ 32) (ht : t.length ≤ 1000000) :
    Calls Tryz.prog 50 #[PB b, .string (B k), .string (B t)] w fun e w' => e = .returned (.string (B (addF s.m k t).1)) ∧ SY w' A b M v ⟨(addF s.m k t).2, s.line, s.long, s.over⟩ ∧ Turn A w w' := by
  have hvl := val_len hO k
  have hlk := fun (W : World) (hW : SY W A b M v s) => look_val hW k hk
  obtain ⟨hlt, ⟨c0, -, -, -⟩, -⟩ := h.at_.four
  have HF : Hid (SY w A b M v s) := h
  have HE : Hid (Env w) := hE
  have hnu := number_any hE t ht
  have hvn := fun (W : World) (hW : Env W) => vnum_any hW (valF s.m k) (by omega)
  have hb1 : -1000000000 < numV (valF s.m k) ∧ numV (valF s.m k) < 1000000000 := by
    unfold numV
    cases hq : numF (valF s.m k) with
    | none => simp
    | some x => have := num_is hq; simp; omega
  obtain ⟨hb10, hb11⟩ := hb1
  cases hn : numF t with
  | none =>
    have hr : addF s.m k t = (bBAD, s.m) := by unfold addF; rw [hn]
    have hnv : numV t = 0 := by unfold numV; rw [hn]; rfl
    rw [hr]
    rw [hn, hnv] at hnu
    clear h hE hn hnv hr
    go_enter Tryz.func50, Tryz.ntmps50
    go_wp2_with fail
    refine hnu.mono ?_
    rintro e w1 ⟨rfl, hb⟩
    have c0' := later hb c0
    have hlk1 := hlk w1 (HF.out.later hb)
    go_wp2_with fail
    refine (hvn w1 (HE.out.later hb)).mono ?_
    rintro e w2 ⟨rfl, hb2⟩
    go_wp2
    go_ret
    exact ⟨rfl, HF.out.later (bt hb hb2), Turn.of_below (bt hb hb2)⟩
  | some n =>
    obtain ⟨n0, n1, -⟩ := num_is hn
    have hnv : numV t = n := by unfold numV; rw [hn]; rfl
    rw [hn, hnv] at hnu
    have hadd : addF s.m k t = if -999999999 ≤ numV (valF s.m k) + n ∧ numV (valF s.m k) + n ≤ 999999999 then keepF s.m k (Go.Lib.itoa (numV (valF s.m k) + n)) (bVALUE ++ Go.Lib.itoa (numV (valF s.m k) + n)) else (bBAD, s.m) := by unfold addF; rw [hn]
    by_cases hc : shortB (numV (valF s.m k) + n) = true
    · have hc' : -999999999 ≤ numV (valF s.m k) + n ∧ numV (valF s.m k) + n ≤ 999999999 := by simpa [shortB] using hc
      rw [if_pos hc'] at hadd
      rw [hadd]
      have hl := itoa_len (v := numV (valF s.m k) + n) (by omega) (by omega)
      have hit := fun (W : World) (hW : Env W) => itoa_any hW (numV (valF s.m k) + n) (by omega) (by omega)
      generalize hx : Go.Lib.itoa (numV (valF s.m k) + n) = x at hit hl ⊢
      have hva := fun W => valued_any x W (by omega)
      generalize hy : bVALUE ++ x = y at hva ⊢
      have hkp := fun (W : World) (hW : SY W A b M v s) => keep_any hW hO k x y hk
      clear h hE hn hnv hadd hc' hx hy
      generalize numV (valF s.m k) = z at hvn hb10 hb11 hit hc
      go_enter Tryz.func50, Tryz.ntmps50
      go_wp2_with fail
      refine hnu.mono ?_
      rintro e w1 ⟨rfl, hb⟩
      have c0' := later hb c0
      have hlk1 := hlk w1 (HF.out.later hb)
      go_wp2_with fail
      refine (hvn w1 (HE.out.later hb)).mono ?_
      rintro e w2 ⟨rfl, hb2⟩
      have hb' := bt hb hb2
      go_wp2_with fail
      refine (short_any _ w2).mono ?_
      rintro e w3 ⟨rfl, rfl⟩
      go_wp2_with fail
      refine (hit w3 (HE.out.later hb')).mono ?_
      rintro e w4 ⟨rfl, hb4⟩
      have hb'' := bt hb' hb4
      go_wp2_with fail
      refine (hva w4).mono ?_
      rintro e w5 ⟨rfl, rfl⟩
      go_wp2_with fail
      refine (hkp w5 (HF.out.later hb'')).mono ?_
      rintro e w6 ⟨rfl, h6, t6⟩
      go_wp2
      go_ret
      exact ⟨rfl, h6, (Turn.of_below hb'').trans t6⟩
    · have hc2 : shortB (numV (valF s.m k) + n) = false := by simpa using hc
      have hc' : ¬ (-999999999 ≤ numV (valF s.m k) + n ∧ numV (valF s.m k) + n ≤ 999999999) := by simpa [shortB] using hc
      rw [if_neg hc'] at hadd
      rw [hadd]
      clear h hE hn hnv hadd hc' hc
      generalize numV (valF s.m k) = z at hvn hb10 hb11 hc2
      go_enter Tryz.func50, Tryz.ntmps50
      go_wp2_with fail
      refine hnu.mono ?_
      rintro e w1 ⟨rfl, hb⟩
      have c0' := later hb c0
      have hlk1 := hlk w1 (HF.out.later hb)
      go_wp2_with fail
      refine (hvn w1 (HE.out.later hb)).mono ?_
      rintro e w2 ⟨rfl, hb2⟩
      have hb' := bt hb hb2
      go_wp2_with fail
      refine (short_any _ w2).mono ?_
      rintro e w3 ⟨rfl, rfl⟩
      go_wp2
      go_ret
      exact ⟨rfl, HF.out.later hb', Turn.of_below hb'⟩
end
end Go.Proofs.YtadmpdeegnppjaaGreatDoor
