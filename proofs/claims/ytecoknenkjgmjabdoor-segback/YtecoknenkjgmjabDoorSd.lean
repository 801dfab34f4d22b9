/- The contract of Reset of package seg, where the segment has no ACK. -/
import Derived.Test.YtecoknenkjgmjabDoorSc
namespace Go.Proofs.YtecoknenkjgmjabDoor
open Go.RowKit
set_option maxRecDepth 100000
set_option linter.unusedVariables false

set_option maxHeartbeats 4000000 in
theorem reset_s (s : Sg) (v : Value) (w : World) (hv : Rgs w v s.o.rs) (hn : s.o.rs.length ≤ 17592186044416) (hG : Ord w) (h : mayG s = true) (h4 : hasV s.fl 4 = false) (h16 : hasV s.fl 16 = false) (A : Int) (hAV : A = addV s.sq (lenG s)) :
    Calls Tryd.prog 21 #[.agg #[.int .i64 s.fr, .int .i64 s.dt, .int .i64 s.sq, .int .i64 s.ak, .int .i64 s.fl, .int .i64 s.wi, .int .i64 s.ur, .int .i64 s.o.m, .int .i64 s.o.c, .int .i64 s.o.t, .int .i64 s.o.ec, .bool s.o.sd, .bool s.o.ok, .bool s.o.sp, v, .string s.da]] w fun e w' => e = .returned (.tuple #[.agg #[.int .i64 s.dt, .int .i64 s.fr, .int .i64 0, .int .i64 A, .int .i64 20, .int .i64 0, .int .i64 0, .int .i64 0, .int .i64 0, .int .i64 0, .int .i64 0, .bool false, .bool false, .bool false, .slice none 0 0, .string ⟨#[]⟩], .bool true]) ∧ Below w.heap.size w w' := by
  have hb1 := bel1 w (.cells #[.int .i64 s.fr, .int .i64 s.dt, .int .i64 s.sq, .int .i64 s.ak, .int .i64 s.fl, .int .i64 s.wi, .int .i64 s.ur, .int .i64 s.o.m, .int .i64 s.o.c, .int .i64 s.o.t, .int .i64 s.o.ec, .bool s.o.sd, .bool s.o.ok, .bool s.o.sp, v, .string s.da] 28)
  have hb2 := bel1 (w.alloc (.cells #[.int .i64 s.fr, .int .i64 s.dt, .int .i64 s.sq, .int .i64 s.ak, .int .i64 s.fl, .int .i64 s.wi, .int .i64 s.ur, .int .i64 s.o.m, .int .i64 s.o.c, .int .i64 s.o.t, .int .i64 s.o.ec, .bool s.o.sd, .bool s.o.ok, .bool s.o.sp, v, .string s.da] 28)) (.cells #[.int .i64 0, .int .i64 0, .int .i64 0, .int .i64 0, .int .i64 0, .int .i64 0, .int .i64 0, .int .i64 0, .int .i64 0, .int .i64 0, .int .i64 0, .bool false, .bool false, .bool false, .slice none 0 0, .string ⟨#[]⟩] 28)
  have hA := (At.box w #[.int .i64 s.fr, .int .i64 s.dt, .int .i64 s.sq, .int .i64 s.ak, .int .i64 s.fl, .int .i64 s.wi, .int .i64 s.ur, .int .i64 s.o.m, .int .i64 s.o.c, .int .i64 s.o.t, .int .i64 s.o.ec, .bool s.o.sd, .bool s.o.ok, .bool s.o.sp, v, .string s.da] 28).later hb2
  have hR := At.box2 w (.cells #[.int .i64 s.fr, .int .i64 s.dt, .int .i64 s.sq, .int .i64 s.ak, .int .i64 s.fl, .int .i64 s.wi, .int .i64 s.ur, .int .i64 s.o.m, .int .i64 s.o.c, .int .i64 s.o.t, .int .i64 s.o.ec, .bool s.o.sd, .bool s.o.ok, .bool s.o.sp, v, .string s.da] 28) #[.int .i64 0, .int .i64 0, .int .i64 0, .int .i64 0, .int .i64 0, .int .i64 0, .int .i64 0, .int .i64 0, .int .i64 0, .int .i64 0, .int .i64 0, .bool false, .bool false, .bool false, .slice none 0 0, .string ⟨#[]⟩] 28
  have hl := bt hb1 hb2
  have hsz : w.heap.size + 2 ≤ ((w.alloc (.cells #[.int .i64 s.fr, .int .i64 s.dt, .int .i64 s.sq, .int .i64 s.ak, .int .i64 s.fl, .int .i64 s.wi, .int .i64 s.ur, .int .i64 s.o.m, .int .i64 s.o.c, .int .i64 s.o.t, .int .i64 s.o.ec, .bool s.o.sd, .bool s.o.ok, .bool s.o.sp, v, .string s.da] 28)).alloc (.cells #[.int .i64 0, .int .i64 0, .int .i64 0, .int .i64 0, .int .i64 0, .int .i64 0, .int .i64 0, .int .i64 0, .int .i64 0, .int .i64 0, .int .i64 0, .bool false, .bool false, .bool false, .slice none 0 0, .string ⟨#[]⟩] 28)).heap.size := by simp
  have hz : ∀ W, (Instr.build 28 #[]).run Tryd.prog W = .ok (.agg #[.int .i64 0, .int .i64 0, .int .i64 0, .int .i64 0, .int .i64 0, .int .i64 0, .int .i64 0, .int .i64 0, .int .i64 0, .int .i64 0, .int .i64 0, .bool false, .bool false, .bool false, .slice none 0 0, .string ⟨#[]⟩]) W := fun W => run_build W 28 #[] _ (by kernel_rfl)
  have hm := may_s s v _ (hv.later hl) hn (hG.later hl)
  have hd : s.da.size ≤ 1480 := by
    unfold mayG at h
    simp only [Bool.and_eq_true, decide_eq_true_eq] at h
    exact h.2
  have hln := fun W => len_any s v W (by omega)
  have had := fun W => add_any s.sq (lenG s) W
  rw [← hAV] at had
  generalize lenG s = LN at *
  generalize codeOf (numB s.sq && stepB LN) = cc at *
  have HLN : Hid (∀ W, Calls Tryd.prog 13 #[.agg #[.int .i64 s.fr, .int .i64 s.dt, .int .i64 s.sq, .int .i64 s.ak, .int .i64 s.fl, .int .i64 s.wi, .int .i64 s.ur, .int .i64 s.o.m, .int .i64 s.o.c, .int .i64 s.o.t, .int .i64 s.o.ec, .bool s.o.sd, .bool s.o.ok, .bool s.o.sp, v, .string s.da]] W fun e w' => e = .returned (.int .i64 LN) ∧ Below W.heap.size W w') := hln
  have HAD : Hid (∀ W, Calls Tryd.prog 43 #[.int .i64 s.sq, .int .i64 LN] W fun e w' => e = .returned (.tuple #[.int .i64 A, .int .i64 cc]) ∧ w' = W) := had
  rw [h] at hm
  clear hln had hAV hd h
  go_enter Tryd.func21, Tryd.ntmps21
  go_wp2_with (refine wpList_loadG 28 _ (by rfl) (by rfl) (w.heap.size) 0 (by rfl) _ _ hA.range Tryd.underlying28 rfl size28 ?_)
  refine hm.mono ?_
  rintro e w1 ⟨rfl, hb⟩
  replace hl := bt hl hb
  replace hA := hA.later hb
  replace hR := hR.later hb
  replace hsz := Nat.le_trans hsz hb.size
  clear hb hb1 hb2 hm
  go_wp2_with (refine wpList_loadG 28 _ (by rfl) (by rfl) (w.heap.size) 0 (by rfl) _ _ hA.range Tryd.underlying28 rfl size28 ?_)
  refine (has_f s v 4 _ h4).mono ?_
  rintro e w2 ⟨rfl, hb⟩
  replace hl := bt hl hb
  replace hA := hA.later hb
  replace hR := hR.later hb
  replace hsz := Nat.le_trans hsz hb.size
  clear hb
  obtain ⟨⟨c0, c1, c2, c3, c4, c5, c6, c7, c8, c9, c10, c11, c12, c13, c14, c15⟩, -, -⟩ := hA.sixteen
  have h3 : ∀ W, (Instr.build 28 #[(0, .int .i64 s.dt), (1, .int .i64 s.fr), (4, .int .i64 4)]).run Tryd.prog W = .ok (.agg #[.int .i64 s.dt, .int .i64 s.fr, .int .i64 0, .int .i64 0, .int .i64 4, .int .i64 0, .int .i64 0, .int .i64 0, .int .i64 0, .int .i64 0, .int .i64 0, .bool false, .bool false, .bool false, .slice none 0 0, .string ⟨#[]⟩]) W := fun W => run_build W 28 _ _ (by kernel_rfl)
  go_upto_region 4 with fail
  clear c0 c1 c2 c3 c4 c5 c6 c7 c8 c9 c10 c11 c12 c13 c14 c15
  have hX' := At.box w2 #[.int .i64 s.dt, .int .i64 s.fr, .int .i64 0, .int .i64 0, .int .i64 4, .int .i64 0, .int .i64 0, .int .i64 0, .int .i64 0, .int .i64 0, .int .i64 0, .bool false, .bool false, .bool false, .slice none 0 0, .string ⟨#[]⟩] 28
  have hbs := bel1 w2 (.cells #[.int .i64 s.dt, .int .i64 s.fr, .int .i64 0, .int .i64 0, .int .i64 4, .int .i64 0, .int .i64 0, .int .i64 0, .int .i64 0, .int .i64 0, .int .i64 0, .bool false, .bool false, .bool false, .slice none 0 0, .string ⟨#[]⟩] 28)
  replace hl := bt hl hbs
  replace hA := hA.later hbs
  replace hR := hR.later hbs
  have hsz3 : w2.heap.size + 1 ≤ (w2.alloc (.cells #[.int .i64 s.dt, .int .i64 s.fr, .int .i64 0, .int .i64 0, .int .i64 4, .int .i64 0, .int .i64 0, .int .i64 0, .int .i64 0, .int .i64 0, .int .i64 0, .bool false, .bool false, .bool false, .slice none 0 0, .string ⟨#[]⟩] 28)).heap.size := by simp
  generalize w2.alloc (.cells #[.int .i64 s.dt, .int .i64 s.fr, .int .i64 0, .int .i64 0, .int .i64 4, .int .i64 0, .int .i64 0, .int .i64 0, .int .i64 0, .int .i64 0, .int .i64 0, .bool false, .bool false, .bool false, .slice none 0 0, .string ⟨#[]⟩] 28) = w3 at *
  clear hbs
  go_wp2_with (refine wpList_loadG 28 _ (by rfl) (by rfl) (w.heap.size) 0 (by rfl) _ _ hA.range Tryd.underlying28 rfl size28 ?_)
  refine (has_f s v 16 _ h16).mono ?_
  rintro e w4 ⟨rfl, hb⟩
  replace hl := bt hl hb
  replace hA := hA.later hb
  replace hR := hR.later hb
  replace hX' := hX'.later hb
  replace hsz3 := Nat.le_trans hsz3 hb.size
  clear hb
  go_upto_region 7 with fail
  obtain ⟨⟨r0, r1, r2, r3, r4, r5, r6, r7, r8, r9, r10, r11, r12, r13, r14, r15⟩, ⟨g0, g1, g2, g3, g4, g5, g6, g7, g8, g9, g10, g11, g12, g13, g14, g15⟩, -⟩ := hX'.sixteen
  have hor : bits .or .i64 4 16 = 20 := by decide
  go_cut [3] from 5 (fun q W => q = .bool false ∧ Below w.heap.size w W ∧ At W w.heap.size #[.int .i64 s.fr, .int .i64 s.dt, .int .i64 s.sq, .int .i64 s.ak, .int .i64 s.fl, .int .i64 s.wi, .int .i64 s.ur, .int .i64 s.o.m, .int .i64 s.o.c, .int .i64 s.o.t, .int .i64 s.o.ec, .bool s.o.sd, .bool s.o.ok, .bool s.o.sp, v, .string s.da] ∧ At W (w.heap.size + 1) #[.int .i64 0, .int .i64 0, .int .i64 0, .int .i64 0, .int .i64 0, .int .i64 0, .int .i64 0, .int .i64 0, .int .i64 0, .int .i64 0, .int .i64 0, .bool false, .bool false, .bool false, .slice none 0 0, .string ⟨#[]⟩] ∧ At W w2.heap.size #[.int .i64 s.dt, .int .i64 s.fr, .int .i64 0, .int .i64 0, .int .i64 20, .int .i64 0, .int .i64 0, .int .i64 0, .int .i64 0, .int .i64 0, .int .i64 0, .bool false, .bool false, .bool false, .slice none 0 0, .string ⟨#[]⟩])
  case first =>
    clear HLN HAD
    go_wp2
    go_meet
    case rel => exact ⟨rfl, hl.setCell (p := ⟨w2.heap.size, 4, none⟩) (by show w.heap.size ≤ w2.heap.size; omega) _, hA.keep (b := w2.heap.size) (by omega) 4 _, hR.keep (b := w2.heap.size) (by omega) 4 _, hX'.set 4 (.int .i64 20)⟩
  case rest =>
  clear hl hA hR hX' r0 r1 r2 r3 r4 r5 r6 r7 r8 r9 r10 r11 r12 r13 r14 r15 g0 g1 g2 g3 g4 g5 g6 g7 g8 g9 g10 g11 g12 g13 g14 g15 hor
  obtain ⟨rfl, hl, hA, hR, hX⟩ := hcut
  have HA : Hid (At wc w.heap.size #[.int .i64 s.fr, .int .i64 s.dt, .int .i64 s.sq, .int .i64 s.ak, .int .i64 s.fl, .int .i64 s.wi, .int .i64 s.ur, .int .i64 s.o.m, .int .i64 s.o.c, .int .i64 s.o.t, .int .i64 s.o.ec, .bool s.o.sd, .bool s.o.ok, .bool s.o.sp, v, .string s.da]) := hA
  have HR : Hid (At wc (w.heap.size + 1) #[.int .i64 0, .int .i64 0, .int .i64 0, .int .i64 0, .int .i64 0, .int .i64 0, .int .i64 0, .int .i64 0, .int .i64 0, .int .i64 0, .int .i64 0, .bool false, .bool false, .bool false, .slice none 0 0, .string ⟨#[]⟩]) := hR
  have HX : Hid (At wc w2.heap.size #[.int .i64 s.dt, .int .i64 s.fr, .int .i64 0, .int .i64 0, .int .i64 20, .int .i64 0, .int .i64 0, .int .i64 0, .int .i64 0, .int .i64 0, .int .i64 0, .bool false, .bool false, .bool false, .slice none 0 0, .string ⟨#[]⟩]) := hX
  clear hA hR hX
  go_wp2
  refine wp_region_any (by kernel_rfl) ?_
  refine region_facts_two (fun W => Below wc.heap.size wc W) (GE (fun qq => match qq with | 0 => .pointer (some ⟨w.heap.size, 2, none⟩) | 1 => .int .i64 s.sq | 2 => .agg #[.int .i64 s.fr, .int .i64 s.dt, .int .i64 s.sq, .int .i64 s.ak, .int .i64 s.fl, .int .i64 s.wi, .int .i64 s.ur, .int .i64 s.o.m, .int .i64 s.o.c, .int .i64 s.o.t, .int .i64 s.o.ec, .bool s.o.sd, .bool s.o.ok, .bool s.o.sp, v, .string s.da] | 3 => .int .i64 LN | 4 => .tuple #[.int .i64 A, .int .i64 cc] | 5 => .tuple #[.int .i64 A, .int .i64 cc] | 6 => .int .i64 A | 7 => .int .i64 cc | _ => undef) (fun _ => none)) (n := 38) 8 7 8 (by decide) (by decide) (by kernel_rfl) (by kernel_rfl) rfl (by kernel_rfl) (GE_later _ _ (fun _ _ h => by cases h)) ?_ ?_ ((Below.refl _ _).drew) (Nat.le_refl _)
  · clear HR HX
    refine ⟨?_, ?_, ?_, ?_, ?_, ?_, ?_, ?_, trivial⟩
    · intro ac w1 hS hT hB hD K hK
      rw [if_pos (by rfl)]
      have d1 : ac.tmps.getD 1 undef = .pointer (some ⟨w.heap.size, 0, none⟩) := hB 1 (by kernel_rfl)
      clear hB hD hT
      go_simp
      exact hK _ _ hS (Below.refl _ _) rfl
    · intro ac w1 hS hT hB hD K hK
      rw [if_pos (by rfl)]
      have d29 : ac.tmps.getD 29 undef = .pointer (some ⟨w.heap.size, 2, none⟩) := hD ⟨0, .data⟩ (by simp) rfl _ 29 rfl rfl
      clear hB hD hT
      have hc := (HA.out.later hS).sixteen.1
      go_simp
      exact hK _ _ hS (Below.refl _ _) rfl
    · intro ac w1 hS hT hB hD K hK
      rw [if_pos (by rfl)]
      have d1 : ac.tmps.getD 1 undef = .pointer (some ⟨w.heap.size, 0, none⟩) := hB 1 (by kernel_rfl)
      clear hB hD hT
      exact wp_load_mid 28 (.tmp 1) rfl w.heap.size 0 d1 _ _ (HA.out.later hS).range Tryd.underlying28 rfl size28 (hK _ _ hS (Below.refl _ _) rfl)
    · intro ac w1 hS hT hB hD K hK
      rw [if_pos (by rfl)]
      have d31 : ac.tmps.getD 31 undef = .agg #[.int .i64 s.fr, .int .i64 s.dt, .int .i64 s.sq, .int .i64 s.ak, .int .i64 s.fl, .int .i64 s.wi, .int .i64 s.ur, .int .i64 s.o.m, .int .i64 s.o.c, .int .i64 s.o.t, .int .i64 s.o.ec, .bool s.o.sd, .bool s.o.ok, .bool s.o.sp, v, .string s.da] := hD ⟨2, .data⟩ (by simp) rfl _ 31 rfl rfl
      clear hB hD hT
      go_simp
      refine (HLN.out _).mono ?_
      rintro e w' ⟨rfl, hb⟩
      exact hK _ _ (bt hS hb) hb rfl
    · intro ac w1 hS hT hB hD K hK
      rw [if_pos (by rfl)]
      have d30 : ac.tmps.getD 30 undef = .int .i64 s.sq := hD ⟨1, .data⟩ (by simp) rfl _ 30 rfl rfl
      have d32 : ac.tmps.getD 32 undef = .int .i64 LN := hD ⟨3, .data⟩ (by simp) rfl _ 32 rfl rfl
      clear hB hD hT
      go_simp
      refine (HAD.out _).mono ?_
      rintro e w' ⟨rfl, rfl⟩
      exact hK _ _ hS (Below.refl _ _) rfl
    · intro ac w1 hS hT hB hD K hK
      rw [if_pos (by rfl)]
      have d33 : ac.tmps.getD 33 undef = .tuple #[.int .i64 A, .int .i64 cc] := hD ⟨4, .data⟩ (by simp) rfl _ 33 rfl rfl
      clear hB hD hT
      go_simp
      exact hK _ _ hS (Below.refl _ _) rfl
    · intro ac w1 hS hT hB hD K hK
      rw [if_pos (by rfl)]
      have d28 : ac.tmps.getD 28 undef = .tuple #[.int .i64 A, .int .i64 cc] := hD ⟨5, .data⟩ (by simp) rfl _ 28 rfl rfl
      clear hB hD hT
      go_simp
      exact hK _ _ hS (Below.refl _ _) rfl
    · intro ac w1 hS hT hB hD K hK
      rw [if_pos (by rfl)]
      have d28 : ac.tmps.getD 28 undef = .tuple #[.int .i64 A, .int .i64 cc] := hD ⟨5, .data⟩ (by simp) rfl _ 28 rfl rfl
      clear hB hD hT
      go_simp
      exact hK _ _ hS (Below.refl _ _) rfl
  · intro ac w1 zl hS hT hdf hB hF
    have hfr : ac.tmps = #[.agg #[.int .i64 s.fr, .int .i64 s.dt, .int .i64 s.sq, .int .i64 s.ak, .int .i64 s.fl, .int .i64 s.wi, .int .i64 s.ur, .int .i64 s.o.m, .int .i64 s.o.c, .int .i64 s.o.t, .int .i64 s.o.ec, .bool s.o.sd, .bool s.o.ok, .bool s.o.sp, v, .string s.da], .pointer (some ⟨w.heap.size, 0, none⟩), .pointer (some ⟨w.heap.size + 1, 0, none⟩), .bool false, .pointer (some ⟨w2.heap.size, 0, none⟩), u5, u6, u7, u8, u9, u10, u11, u12, u13, u14, u15, u16, u17, u18, u19, u20, u21, u22, u23, u24, u25, u26, u27, (ac.tmps.getD 28 undef), (ac.tmps.getD 29 undef), (ac.tmps.getD 30 undef), (ac.tmps.getD 31 undef), (ac.tmps.getD 32 undef), (ac.tmps.getD 33 undef), (ac.tmps.getD 34 undef), (ac.tmps.getD 35 undef), (ac.tmps.getD 36 undef), u37] := (frame_eq hT rfl hB).trans (by kernel_rfl)
    obtain ⟨T, df⟩ := ac
    have s28 : T.getD 28 undef = .tuple #[.int .i64 A, .int .i64 cc] := hF 5 _ 28 (by decide) (fun h => by cases h) rfl rfl
    have s34 : T.getD 34 undef = .int .i64 A := hF 6 _ 34 (by decide) (fun h => by cases h) rfl rfl
    have sdf : df = [] := hdf
    simp only at hfr
    clear hB hF hT hdf HLN HAD
    generalize T.getD 29 undef = y29 at *
    generalize T.getD 30 undef = y30 at *
    generalize T.getD 31 undef = y31 at *
    generalize T.getD 32 undef = y32 at *
    generalize T.getD 33 undef = y33 at *
    generalize T.getD 28 undef = y28 at *
    generalize T.getD 34 undef = y34 at *
    generalize T.getD 35 undef = y35 at *
    generalize T.getD 36 undef = y36 at *
    subst hfr s28 s34 sdf
    have hX1 := HX.out.later hS
    obtain ⟨⟨r0, r1, r2, r3, r4, r5, r6, r7, r8, r9, r10, r11, r12, r13, r14, r15⟩, ⟨g0, g1, g2, g3, g4, g5, g6, g7, g8, g9, g10, g11, g12, g13, g14, g15⟩, -⟩ := hX1.sixteen
    have hXs : At (w1.setCell ⟨w2.heap.size, 3, none⟩ (.int .i64 A)) w2.heap.size #[.int .i64 s.dt, .int .i64 s.fr, .int .i64 0, .int .i64 A, .int .i64 20, .int .i64 0, .int .i64 0, .int .i64 0, .int .i64 0, .int .i64 0, .int .i64 0, .bool false, .bool false, .bool false, .slice none 0 0, .string ⟨#[]⟩] := hX1.set 3 (.int .i64 A)
    have hRs := (HR.out.later hS).keep (b := w2.heap.size) (by omega) 3 (.int .i64 A)
    have hls : Below w.heap.size w (w1.setCell ⟨w2.heap.size, 3, none⟩ (.int .i64 A)) := (bt hl hS).setCell (p := ⟨w2.heap.size, 3, none⟩) (by show w.heap.size ≤ w2.heap.size; omega) _
    clear hX1
    refine wpOp_step (by rfl) fun Kc hKc => ?_
    rw [if_pos (by rfl)]
    go_simp
    apply hKc
    clear hKc Kc
    cases zl
    · refine any_two (i := 7) (i2 := 9) (by kernel_rfl) (by rfl) (by rfl) ?_ ?_
      · intro Kc hKc
        rw [if_pos (by rfl)]
        go_simp
        apply hKc
        clear hKc Kc
        refine any_one (i := 9) (by kernel_rfl) (by rfl) ?_
        intro Kc hKc
        rw [if_pos (by rfl)]
        go_simp
        apply hKc
        clear hKc Kc
        refine any_done (by kernel_rfl) ?_
        clear r0 r1 r2 r3 r4 r5 r6 r7 r8 r9 r10 r11 r12 r13 r14 r15 g0 g1 g2 g3 g4 g5 g6 g7 g8 g9 g10 g11 g12 g13 g14 g15
        go_wp2_with (first | (refine wpList_loadG 28 _ (by rfl) (by rfl) (w2.heap.size) 0 (by rfl) _ _ hXs.range Tryd.underlying28 rfl size28 ?_) | (refine wpList_store_mid (by rfl) 28 _ _ (by rfl) (w.heap.size + 1) 0 #[.int .i64 s.dt, .int .i64 s.fr, .int .i64 0, .int .i64 A, .int .i64 20, .int .i64 0, .int .i64 0, .int .i64 0, .int .i64 0, .int .i64 0, .int .i64 0, .bool false, .bool false, .bool false, .slice none 0 0, .string ⟨#[]⟩] (by rfl) (by rfl) hRs.there size28 (by simp [Value.oneCell']) ?_))
        go_wp2
        exact bodyPost_ret (v := .tuple #[.agg #[.int .i64 s.dt, .int .i64 s.fr, .int .i64 0, .int .i64 A, .int .i64 20, .int .i64 0, .int .i64 0, .int .i64 0, .int .i64 0, .int .i64 0, .int .i64 0, .bool false, .bool false, .bool false, .slice none 0 0, .string ⟨#[]⟩], .bool true]) (ret_cell (by rfl) (At.whole (vs := #[.int .i64 s.dt, .int .i64 s.fr, .int .i64 0, .int .i64 A, .int .i64 20, .int .i64 0, .int .i64 0, .int .i64 0, .int .i64 0, .int .i64 0, .int .i64 0, .bool false, .bool false, .bool false, .slice none 0 0, .string ⟨#[]⟩]) hRs rfl) rfl (by rfl) (by rfl)) (by rfl) ⟨rfl, Below.setCells (by omega) _ _ _ hls⟩
      · intro Kc hKc
        rw [if_pos (by rfl)]
        go_simp
        apply hKc
        clear hKc Kc
        refine any_one (i := 7) (by kernel_rfl) (by rfl) ?_
        intro Kc hKc
        rw [if_pos (by rfl)]
        go_simp
        apply hKc
        clear hKc Kc
        refine any_done (by kernel_rfl) ?_
        clear r0 r1 r2 r3 r4 r5 r6 r7 r8 r9 r10 r11 r12 r13 r14 r15 g0 g1 g2 g3 g4 g5 g6 g7 g8 g9 g10 g11 g12 g13 g14 g15
        go_wp2_with (first | (refine wpList_loadG 28 _ (by rfl) (by rfl) (w2.heap.size) 0 (by rfl) _ _ hXs.range Tryd.underlying28 rfl size28 ?_) | (refine wpList_store_mid (by rfl) 28 _ _ (by rfl) (w.heap.size + 1) 0 #[.int .i64 s.dt, .int .i64 s.fr, .int .i64 0, .int .i64 A, .int .i64 20, .int .i64 0, .int .i64 0, .int .i64 0, .int .i64 0, .int .i64 0, .int .i64 0, .bool false, .bool false, .bool false, .slice none 0 0, .string ⟨#[]⟩] (by rfl) (by rfl) hRs.there size28 (by simp [Value.oneCell']) ?_))
        go_wp2
        exact bodyPost_ret (v := .tuple #[.agg #[.int .i64 s.dt, .int .i64 s.fr, .int .i64 0, .int .i64 A, .int .i64 20, .int .i64 0, .int .i64 0, .int .i64 0, .int .i64 0, .int .i64 0, .int .i64 0, .bool false, .bool false, .bool false, .slice none 0 0, .string ⟨#[]⟩], .bool true]) (ret_cell (by rfl) (At.whole (vs := #[.int .i64 s.dt, .int .i64 s.fr, .int .i64 0, .int .i64 A, .int .i64 20, .int .i64 0, .int .i64 0, .int .i64 0, .int .i64 0, .int .i64 0, .int .i64 0, .bool false, .bool false, .bool false, .slice none 0 0, .string ⟨#[]⟩]) hRs rfl) rfl (by rfl) (by rfl)) (by rfl) ⟨rfl, Below.setCells (by omega) _ _ _ hls⟩
    · skip
      refine any_one (i := 9) (by kernel_rfl) (by rfl) ?_
      intro Kc hKc
      rw [if_pos (by rfl)]
      go_simp
      apply hKc
      clear hKc Kc
      refine any_done (by kernel_rfl) ?_
      clear r0 r1 r2 r3 r4 r5 r6 r7 r8 r9 r10 r11 r12 r13 r14 r15 g0 g1 g2 g3 g4 g5 g6 g7 g8 g9 g10 g11 g12 g13 g14 g15
      go_wp2_with (first | (refine wpList_loadG 28 _ (by rfl) (by rfl) (w2.heap.size) 0 (by rfl) _ _ hXs.range Tryd.underlying28 rfl size28 ?_) | (refine wpList_store_mid (by rfl) 28 _ _ (by rfl) (w.heap.size + 1) 0 #[.int .i64 s.dt, .int .i64 s.fr, .int .i64 0, .int .i64 A, .int .i64 20, .int .i64 0, .int .i64 0, .int .i64 0, .int .i64 0, .int .i64 0, .int .i64 0, .bool false, .bool false, .bool false, .slice none 0 0, .string ⟨#[]⟩] (by rfl) (by rfl) hRs.there size28 (by simp [Value.oneCell']) ?_))
      go_wp2
      exact bodyPost_ret (v := .tuple #[.agg #[.int .i64 s.dt, .int .i64 s.fr, .int .i64 0, .int .i64 A, .int .i64 20, .int .i64 0, .int .i64 0, .int .i64 0, .int .i64 0, .int .i64 0, .int .i64 0, .bool false, .bool false, .bool false, .slice none 0 0, .string ⟨#[]⟩], .bool true]) (ret_cell (by rfl) (At.whole (vs := #[.int .i64 s.dt, .int .i64 s.fr, .int .i64 0, .int .i64 A, .int .i64 20, .int .i64 0, .int .i64 0, .int .i64 0, .int .i64 0, .int .i64 0, .int .i64 0, .bool false, .bool false, .bool false, .slice none 0 0, .string ⟨#[]⟩]) hRs rfl) rfl (by rfl) (by rfl)) (by rfl) ⟨rfl, Below.setCells (by omega) _ _ _ hls⟩
end Go.Proofs.YtecoknenkjgmjabDoor
