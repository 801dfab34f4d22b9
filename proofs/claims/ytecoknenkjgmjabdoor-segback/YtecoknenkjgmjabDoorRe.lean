/- The contract of the document's part of layer 7, where the option is one of ranges; and of every kind: one option is put into others, or refused; nothing that was there ahead of these turns. -/
import Derived.Test.YtecoknenkjgmjabDoorRd
import Derived.Test.YtecoknenkjgmjabDoorFactsF
import Derived.Test.YtecoknenkjgmjabDoorGx
import Derived.Deep.Cut
import Derived.Laws.AppendOwn
namespace Go.Proofs.YtecoknenkjgmjabDoor
open Go.RowKit
set_option maxRecDepth 100000

set_option linter.unusedVariables false
theorem bd35 (X Y : Int) : Tryd.prog.built 77 [(0, .int .i64 X), (1, .int .i64 Y)] = some #[.int .i64 X, .int .i64 Y] := by kernel_rfl
theorem bs35 (X Y : Int) (w : World) : (Instr.buildSlice 24 1 #[(0, .agg #[.int .i64 X, .int .i64 Y])]).run Tryd.prog w = .ok (.slice (some ⟨w.heap.size, 0, none⟩) 1 1) (w.alloc (.cells #[.int .i64 X, .int .i64 Y] 77)) := by
  obtain ⟨i0, hi, hz0, hz1, hz2⟩ := info_parts Tryd.info77
  refine run_buildSlice w 24 77 1 _ _ i0 _ Tryd.underlying24 hi hz0 (by rw [hz1]; decide) (by rw [hz1]; decide) ?_
  rw [hz1]; kernel_rfl
theorem orun_sl (s : ByteArray) (a b : Int) (v : ByteArray) (hx : s.extract a.toNat b.toNat = v) (h : b ≤ s.size) (h0 : 0 ≤ a) (hab : a ≤ b) : ∀ W, (Instr.slice 9 (.string s) (some (.int .i64 a)) (some (.int .i64 b)) none).run Tryd.prog W = .ok (.string v) W := fun W => by
  rw [run_slice_string_if W 9 s .i64 .i64 a b Tryd.underlying9, if_pos ⟨by omega, by omega⟩, if_pos ⟨by omega, by omega⟩, ← hx]
set_option maxRecDepth 100000 in
set_option maxHeartbeats 8000000 in
theorem rp_5 (m c t ec : Int) (sd ok sp : Bool) (v0 : Value) (rs : List (Int × Int)) (B : Nat) (w : World) (hP : At w (B + 1) #[.int .i64 m, .int .i64 c, .int .i64 t, .int .i64 ec, .bool sd, .bool ok, .bool sp, v0]) (hQ : At w (B + 2) #[.bool false, .bool false, .bool (m != 0), .bool sd, .bool ok, .bool (decide (0 < rs.length)), .bool false, .bool false, .bool sp]) (hown : w.ownsRow (B + 3) 77 2 v0 rs.length (flatR rs)) (hnil : rs = [] → v0 = .slice none 0 0) (b : ByteArray) (hs : b.size ≤ 38) (hB3 : B + 3 ≤ w.heap.size) :
    Calls Tryd.prog 65 #[.pointer (some ⟨B + 1, 0, none⟩), .int .i64 5, .string b, .slice (some ⟨B + 2, 0, none⟩) 9 9] w fun en w' => PartPost (stepO ⟨m, c, t, ec, sd, ok, sp, rs⟩ 5 b.data.toList) B w en w' := by
  have hlen : b.data.toList.length = b.size := toList_size b
  by_cases hr : 0 < rs.length
  · have hst : stepO ⟨m, c, t, ec, sd, ok, sp, rs⟩ 5 b.data.toList = none := by simp [stepO, followsB, show ¬ rs = [] from fun e => by rw [e] at hr; simp at hr]
    rw [hst]
    rw [decide_eq_true hr] at hQ
    obtain ⟨⟨c0, c1, c2, c3, c4, c5, c6, c7⟩, ⟨f0, f1, f2, f3, f4, f5, f6, f7⟩, hlP⟩ := hP.eight
    obtain ⟨⟨s0, s1, s2, s3, s4, s5, s6, s7, s8⟩, ⟨q0, q1, q2, q3, q4, q5, q6, q7, q8⟩, hlQ⟩ := hQ.nine
    go_enter Tryd.func65, Tryd.ntmps65
    go_wp2
    go_ret
    exact ⟨rfl, Below.refl _ _⟩
  have hr0 : rs = [] := List.eq_nil_of_length_eq_zero (by omega)
  subst hr0
  obtain rfl := hnil rfl
  obtain ⟨⟨c0, c1, c2, c3, c4, c5, c6, c7⟩, ⟨f0, f1, f2, f3, f4, f5, f6, f7⟩, hlP⟩ := hP.eight
  obtain ⟨⟨s0, s1, s2, s3, s4, s5, s6, s7, s8⟩, ⟨q0, q1, q2, q3, q4, q5, q6, q7, q8⟩, hlQ⟩ := hQ.nine
  by_cases h8 : b.size % 8 = 0
  case neg =>
    have hst : stepO ⟨m, c, t, ec, sd, ok, sp, []⟩ 5 b.data.toList = none := by simp [stepO, followsB, hlen, h8]
    rw [hst]
    have t1 : ((b.size : Int) % 8 != 0) = true := by simp; omega
    have hsz : (b.size : Int) ≤ 38 := by omega
    go_enter Tryd.func65, Tryd.ntmps65
    go_wp2
    go_ret
    exact ⟨rfl, (Below.refl (B + 1) w).setCell (p := ⟨B + 2, 5, none⟩) (by show B + 1 ≤ B + 2; omega) _⟩
  by_cases hz : b.size = 0
  · have hst : stepO ⟨m, c, t, ec, sd, ok, sp, []⟩ 5 b.data.toList = none := by simp [stepO, followsB, hlen, hz]
    rw [hst]
    have t0 : (b.size : Int) = 0 := by omega
    have t1 : ((b.size : Int) % 8 != 0) = false := by simp; omega
    have t2 : (b.size : Int) < 8 := by omega
    go_enter Tryd.func65, Tryd.ntmps65
    go_wp2
    go_ret
    exact ⟨rfl, (Below.refl (B + 1) w).setCell (p := ⟨B + 2, 5, none⟩) (by show B + 1 ≤ B + 2; omega) _⟩
  obtain ⟨i0, hi, hz0, hz1, hz2⟩ := info_parts Tryd.info77
  have HI : Hid (Tryd.prog.info? 77 = some i0 ∧ i0.zero = some (.agg #[.int .i64 0, .int .i64 0]) ∧ i0.size = 2 ∧ i0.bytes = 16) := ⟨hi, hz0, hz1, hz2⟩
  clear hi hz0 hz1 hz2
  have hst : stepO ⟨m, c, t, ec, sd, ok, sp, []⟩ 5 b.data.toList = some ⟨m, c, t, ec, sd, ok, sp, pairsL b.data.toList⟩ := by simp [stepO, followsB, saysB, takeO, hlen, hz, h8]
  rw [hst]
  obtain ⟨N, hN⟩ : ∃ N, N = b.size / 8 := ⟨_, rfl⟩
  have hN1 : 1 ≤ N := by omega
  have hN5 : N ≤ 4 := by omega
  have hbs : (b.size : Int) = (N : Int) * 8 := by omega
  have hpl := pairs_len b
  rw [← hN] at hpl
  have HPL : Hid ((pairsL b.data.toList).length = N) := hpl
  have HAT : Hid (∀ k, k < N → (pairsL b.data.toList)[k]? = some (numL ((b.data.toList.drop (k * 8)).take 4), numL ((b.data.toList.drop (k * 8 + 4)).take 4))) := fun k hk => pairs_at b k (by omega)
  have t1 : ((b.size : Int) % 8 != 0) = false := by simp; omega
  have t2 : ¬ (b.size : Int) < 8 := by omega
  have t3 : ¬ (32 : Int) < (b.size : Int) := by omega
  have hst5 : Below (B + 1) w (w.setCell ⟨B + 2, 5, none⟩ (.bool true)) := (Below.refl (B + 1) w).setCell (p := ⟨B + 2, 5, none⟩) (by show B + 1 ≤ B + 2; omega) _
  have HST : Hid (Below (B + 1) w (w.setCell ⟨B + 2, 5, none⟩ (.bool true)) ∧ At (w.setCell ⟨B + 2, 5, none⟩ (.bool true)) (B + 1) #[.int .i64 m, .int .i64 c, .int .i64 t, .int .i64 ec, .bool sd, .bool ok, .bool sp, (.slice none 0 0)] ∧ At (w.setCell ⟨B + 2, 5, none⟩ (.bool true)) (B + 2) #[.bool false, .bool false, .bool (m != 0), .bool sd, .bool ok, .bool true, .bool false, .bool false, .bool sp] ∧ B + 3 ≤ (w.setCell ⟨B + 2, 5, none⟩ (.bool true)).heap.size) := ⟨hst5, hP.keep (b := B + 2) (by omega) 5 _, (show At _ (B + 2) #[.bool false, .bool false, .bool (m != 0), .bool sd, .bool ok, .bool true, .bool false, .bool false, .bool sp] from hQ.set 5 (.bool true)), by rw [World.size_setCell]; exact hB3⟩
  have HOW : Hid (w.ownsRow (B + 3) 77 2 (.slice none 0 0) 0 []) := hown
  clear hst5 hst hlen hpl hN hown hnil hP hQ
  go_enter Tryd.func65, Tryd.ntmps65
  go_upto_region 23 with fail
  clear t1 t2 t3 c0 c1 c2 c3 c4 c5 c6 c7 f0 f1 f2 f3 f4 f5 f6 f7 s0 s1 s2 s3 s4 s5 s6 s7 s8 q0 q1 q2 q3 q4 q5 q6 q7 q8
  generalize w.setCell ⟨B + 2, 5, none⟩ (.bool true) = w0 at *
  go_cut [9] from 10 (fun s W => s = .int .i64 0 ∧ W = w0)
  case first =>
    clear HST HAT HPL HI HOW
    go_wp2
    go_meet
    case rel => exact ⟨rfl, rfl⟩
  case rest =>
  obtain ⟨rfl, rfl⟩ := hcut
  go_wp2_with fail
  go_loopw [9] (fun s W => ∃ (k : Nat) (v : Value), k ≤ N ∧ s = .int .i64 ((k * 8 : Nat) : Int) ∧ Below (B + 1) w W ∧ B + 3 ≤ W.heap.size ∧ At W (B + 1) #[.int .i64 m, .int .i64 c, .int .i64 t, .int .i64 ec, .bool sd, .bool ok, .bool sp, v] ∧ At W (B + 2) #[.bool false, .bool false, .bool (m != 0), .bool sd, .bool ok, .bool true, .bool false, .bool false, .bool sp] ∧ W.ownsRow (B + 3) 77 2 v k (flatR ((pairsL b.data.toList).take k))) (fun s _ => N * 8 - (intOf s).toNat)
  case atStart => exact ⟨0, .slice none 0 0, Nat.zero_le _, by simp, HST.out.1, HST.out.2.2.2, HST.out.2.1, HST.out.2.2.1, World.ownsRow_nil _ _ _ _⟩
  case round =>
    clear HOW HST hlP hlQ
    obtain ⟨k, v, hk, rfl, hbl, hsz, hA, hR, hown⟩ := hrel
    by_cases hlt : k < N
    · obtain ⟨p, hp⟩ : ∃ p, p = k * 8 := ⟨_, rfl⟩
      rw [← hp]
      have hpk := HAT.out k hlt
      rw [← hp] at hpk
      have HTK := takeL_snoc _ k _ hpk
      have hp4 : p + 8 ≤ b.size := by omega
      have eX : numS (b.extract p (p + 4)) = numL ((b.data.toList.drop p).take 4) := by unfold numS; rw [ext_list b p (p + 4) (by omega)]; congr 2; omega
      have eY : numS (b.extract (p + 4) (p + 8)) = numL ((b.data.toList.drop (p + 4)).take 4) := by unfold numS; rw [ext_list b (p + 4) (p + 8) (by omega)]; congr 2; omega
      have HGX0 := fun W => num_any (b.extract p (p + 4)) W (by rw [ByteArray.size_extract]; omega)
      have HGY0 := fun W => num_any (b.extract (p + 4) (p + 8)) W (by rw [ByteArray.size_extract]; omega)
      rw [eX] at HGX0
      rw [eY] at HGY0
      have hs1 := orun_sl b (p : Int) ((p : Int) + 4) (b.extract p (p + 4)) (by congr 1) (by omega) (by omega) (by omega)
      have hs2 := orun_sl b ((p : Int) + 4) ((p : Int) + 8) (b.extract (p + 4) (p + 8)) (by congr 1) (by omega) (by omega) (by omega)
      generalize numL ((b.data.toList.drop p).take 4) = X at *
      generalize numL ((b.data.toList.drop (p + 4)).take 4) = Y at *
      generalize b.extract p (p + 4) = b1 at *
      generalize b.extract (p + 4) (p + 8) = b2 at *
      have HGX : Hid (∀ W, Calls Tryd.prog 41 #[.string b1] W fun e w' => e = .returned (.int .i64 X) ∧ w' = W) := HGX0
      have HGY : Hid (∀ W, Calls Tryd.prog 41 #[.string b2] W fun e w' => e = .returned (.int .i64 Y) ∧ w' = W) := HGY0
      have HS1 : Hid (∀ W, (Instr.slice 9 (.string b) (some (.int .i64 (p : Int))) (some (.int .i64 ((p : Int) + 4))) none).run Tryd.prog W = .ok (.string b1) W) := hs1
      have HS2 : Hid (∀ W, (Instr.slice 9 (.string b) (some (.int .i64 ((p : Int) + 4))) (some (.int .i64 ((p : Int) + 8))) none).run Tryd.prog W = .ok (.string b2) W) := hs2
      have HTKH : Hid ((pairsL b.data.toList).take (k + 1) = (pairsL b.data.toList).take k ++ [(X, Y)]) := HTK
      have HP : Hid (p = k * 8) := hp
      have g1 : (p : Int) < (b.size : Int) := by omega
      have g2 : (p : Int) ≤ 40 := by omega
      clear HGX0 HGY0 eX eY hpk HTK hp hs1 hs2
      have HA : Hid (At wr (B + 1) #[.int .i64 m, .int .i64 c, .int .i64 t, .int .i64 ec, .bool sd, .bool ok, .bool sp, v]) := hA
      have HR : Hid (At wr (B + 2) #[.bool false, .bool false, .bool (m != 0), .bool sd, .bool ok, .bool true, .bool false, .bool false, .bool sp]) := hR
      have HO : Hid (wr.ownsRow (B + 3) 77 2 v k (flatR ((pairsL b.data.toList).take k))) := hown
      clear hA hR hown
      go_wp2
      refine wp_region_any (by kernel_rfl) ?_
      refine region_facts_two (fun W => Below wr.heap.size wr W) (GE (fun i => match i with | 0 => .pointer (some ⟨B + 1, 0, none⟩) | 1 => .pointer (some ⟨B + 1, 0, none⟩) | 2 => .pointer (some ⟨B + 1, 0, none⟩) | 3 => .pointer (some ⟨B + 1, 7, none⟩) | 4 => v | 5 => .string b | 6 => .int .i64 (p : Int) | 7 => .int .i64 (p : Int) | 8 => .int .i64 ((p : Int) + 4) | 9 => .string b1 | 10 => .int .i64 X | 11 => .string b | 12 => .int .i64 (p : Int) | 13 => .int .i64 ((p : Int) + 4) | 14 => .int .i64 (p : Int) | 15 => .int .i64 ((p : Int) + 8) | 16 => .string b2 | 17 => .int .i64 Y | 18 => .agg #[.int .i64 X, .int .i64 Y] | _ => undef) (fun i => match i with | 19 => some (fun v W => ∃ g, v = .slice (some ⟨g, 0, none⟩) 1 1 ∧ g < W.heap.size ∧ W.cell? ⟨g, 0, none⟩ = some (.int .i64 X) ∧ W.cell? ⟨g, 1, none⟩ = some (.int .i64 Y)) | _ => none)) (n := 133) 20 0 8 (by decide) (by decide) (by kernel_rfl) (by kernel_rfl) rfl (by kernel_rfl) (GE_later _ _ (by
        intro i F hF v w w' h hb
        match i, hF with
        | 19, hF =>
          obtain rfl := Option.some.inj hF
          obtain ⟨g, hg, h1, h2, h3⟩ := h
          exact ⟨g, hg, Nat.lt_of_lt_of_le h1 hb.size, later hb h2, later hb h3⟩)) ?_ ?_ ((Below.refl _ _).drew) (Nat.le_refl _)
      · clear HI HTKH HPL HAT HO HR HP
        clear hbl hsz hk hlt
        refine ⟨?_, ?_, ?_, ?_, ?_, ?_, ?_, ?_, ?_, ?_, ?_, ?_, ?_, ?_, ?_, ?_, ?_, ?_, ?_, ?_, trivial⟩
        · intro ac w1 hS hT hB hD K hK
          rw [if_pos (by rfl)]
          have d0 : ac.tmps.getD 0 undef = .pointer (some ⟨B + 1, 0, none⟩) := hB 0 (by kernel_rfl)
          clear hB hD hT
          go_simp
          exact hK _ _ hS (Below.refl _ _) rfl
        · intro ac w1 hS hT hB hD K hK
          rw [if_pos (by rfl)]
          have d0 : ac.tmps.getD 0 undef = .pointer (some ⟨B + 1, 0, none⟩) := hB 0 (by kernel_rfl)
          clear hB hD hT
          go_simp
          exact hK _ _ hS (Below.refl _ _) rfl
        · intro ac w1 hS hT hB hD K hK
          rw [if_pos (by rfl)]
          have d91 : ac.tmps.getD 91 undef = .pointer (some ⟨B + 1, 0, none⟩) := hD ⟨1, .data⟩ (by simp) rfl _ 91 rfl rfl
          clear hB hD hT
          go_simp
          exact hK _ _ hS (Below.refl _ _) rfl
        · intro ac w1 hS hT hB hD K hK
          rw [if_pos (by rfl)]
          have d92 : ac.tmps.getD 92 undef = .pointer (some ⟨B + 1, 0, none⟩) := hD ⟨2, .data⟩ (by simp) rfl _ 92 rfl rfl
          clear hB hD hT
          go_simp
          exact hK _ _ hS (Below.refl _ _) rfl
        · intro ac w1 hS hT hB hD K hK
          rw [if_pos (by rfl)]
          have d93 : ac.tmps.getD 93 undef = .pointer (some ⟨B + 1, 7, none⟩) := hD ⟨3, .data⟩ (by simp) rfl _ 93 rfl rfl
          clear hB hD hT
          have hc := (HA.out.later hS).eight.1
          go_simp
          exact hK _ _ hS (Below.refl _ _) rfl
        · intro ac w1 hS hT hB hD K hK
          rw [if_pos (by rfl)]
          have d2 : ac.tmps.getD 2 undef = .string b := hB 2 (by kernel_rfl)
          clear hB hD hT
          go_simp
          exact hK _ _ hS (Below.refl _ _) rfl
        · intro ac w1 hS hT hB hD K hK
          rw [if_pos (by rfl)]
          have d9 : ac.tmps.getD 9 undef = .int .i64 (p : Int) := hB 9 (by kernel_rfl)
          clear hB hD hT
          go_simp
          exact hK _ _ hS (Below.refl _ _) rfl
        · intro ac w1 hS hT hB hD K hK
          rw [if_pos (by rfl)]
          have d9 : ac.tmps.getD 9 undef = .int .i64 (p : Int) := hB 9 (by kernel_rfl)
          clear hB hD hT
          go_simp
          exact hK _ _ hS (Below.refl _ _) rfl
        · intro ac w1 hS hT hB hD K hK
          rw [if_pos (by rfl)]
          have d97 : ac.tmps.getD 97 undef = .int .i64 (p : Int) := hD ⟨7, .data⟩ (by simp) rfl _ 97 rfl rfl
          clear hB hD hT
          have hw1 : IntKind.i64.wrap ((p : Int) + 4) = (p : Int) + 4 := by rw [IntKind.wrap_i64]; omega
          go_simp
          exact hK _ _ hS (Below.refl _ _) rfl
        · intro ac w1 hS hT hB hD K hK
          rw [if_pos (by rfl)]
          have d95 : ac.tmps.getD 95 undef = .string b := hD ⟨5, .data⟩ (by simp) rfl _ 95 rfl rfl
          have d96 : ac.tmps.getD 96 undef = .int .i64 (p : Int) := hD ⟨6, .data⟩ (by simp) rfl _ 96 rfl rfl
          have d98 : ac.tmps.getD 98 undef = .int .i64 ((p : Int) + 4) := hD ⟨8, .data⟩ (by simp) rfl _ 98 rfl rfl
          clear hB hD hT
          have hsl := HS1.out
          go_simp
          exact hK _ _ hS (Below.refl _ _) rfl
        · intro ac w1 hS hT hB hD K hK
          rw [if_pos (by rfl)]
          have d99 : ac.tmps.getD 99 undef = .string b1 := hD ⟨9, .data⟩ (by simp) rfl _ 99 rfl rfl
          clear hB hD hT
          go_simp
          refine (HGX.out _).mono ?_
          rintro e w' ⟨rfl, rfl⟩
          exact hK _ _ hS (Below.refl _ _) rfl
        · intro ac w1 hS hT hB hD K hK
          rw [if_pos (by rfl)]
          have d2 : ac.tmps.getD 2 undef = .string b := hB 2 (by kernel_rfl)
          clear hB hD hT
          go_simp
          exact hK _ _ hS (Below.refl _ _) rfl
        · intro ac w1 hS hT hB hD K hK
          rw [if_pos (by rfl)]
          have d9 : ac.tmps.getD 9 undef = .int .i64 (p : Int) := hB 9 (by kernel_rfl)
          clear hB hD hT
          go_simp
          exact hK _ _ hS (Below.refl _ _) rfl
        · intro ac w1 hS hT hB hD K hK
          rw [if_pos (by rfl)]
          have d102 : ac.tmps.getD 102 undef = .int .i64 (p : Int) := hD ⟨12, .data⟩ (by simp) rfl _ 102 rfl rfl
          clear hB hD hT
          have hw1 : IntKind.i64.wrap ((p : Int) + 4) = (p : Int) + 4 := by rw [IntKind.wrap_i64]; omega
          go_simp
          exact hK _ _ hS (Below.refl _ _) rfl
        · intro ac w1 hS hT hB hD K hK
          rw [if_pos (by rfl)]
          have d9 : ac.tmps.getD 9 undef = .int .i64 (p : Int) := hB 9 (by kernel_rfl)
          clear hB hD hT
          go_simp
          exact hK _ _ hS (Below.refl _ _) rfl
        · intro ac w1 hS hT hB hD K hK
          rw [if_pos (by rfl)]
          have d104 : ac.tmps.getD 104 undef = .int .i64 (p : Int) := hD ⟨14, .data⟩ (by simp) rfl _ 104 rfl rfl
          clear hB hD hT
          have hw1 : IntKind.i64.wrap ((p : Int) + 8) = (p : Int) + 8 := by rw [IntKind.wrap_i64]; omega
          go_simp
          exact hK _ _ hS (Below.refl _ _) rfl
        · intro ac w1 hS hT hB hD K hK
          rw [if_pos (by rfl)]
          have d101 : ac.tmps.getD 101 undef = .string b := hD ⟨11, .data⟩ (by simp) rfl _ 101 rfl rfl
          have d103 : ac.tmps.getD 103 undef = .int .i64 ((p : Int) + 4) := hD ⟨13, .data⟩ (by simp) rfl _ 103 rfl rfl
          have d105 : ac.tmps.getD 105 undef = .int .i64 ((p : Int) + 8) := hD ⟨15, .data⟩ (by simp) rfl _ 105 rfl rfl
          clear hB hD hT
          have hsl := HS2.out
          go_simp
          exact hK _ _ hS (Below.refl _ _) rfl
        · intro ac w1 hS hT hB hD K hK
          rw [if_pos (by rfl)]
          have d106 : ac.tmps.getD 106 undef = .string b2 := hD ⟨16, .data⟩ (by simp) rfl _ 106 rfl rfl
          clear hB hD hT
          go_simp
          refine (HGY.out _).mono ?_
          rintro e w' ⟨rfl, rfl⟩
          exact hK _ _ hS (Below.refl _ _) rfl
        · intro ac w1 hS hT hB hD K hK
          rw [if_pos (by rfl)]
          have d100 : ac.tmps.getD 100 undef = .int .i64 X := hD ⟨10, .data⟩ (by simp) rfl _ 100 rfl rfl
          have d107 : ac.tmps.getD 107 undef = .int .i64 Y := hD ⟨17, .data⟩ (by simp) rfl _ 107 rfl rfl
          clear hB hD hT
          exact wp_build2 77 (.tmp 100) (.tmp 107) _ _ _ rfl d100 d107 (bd35 X Y) (hK _ _ hS (Below.refl _ _) rfl)
        · intro ac w1 hS hT hB hD K hK
          rw [if_pos (by rfl)]
          have d108 : ac.tmps.getD 108 undef = .agg #[.int .i64 X, .int .i64 Y] := hD ⟨18, .data⟩ (by simp) rfl _ 108 rfl rfl
          clear hB hD hT
          exact wp_bslice1 24 77 (.tmp 108) _ _ rfl d108 (bs35 X Y _) (hK _ _ (bt hS (bel1 _ _)) (bel1 _ _) ⟨_, rfl, by simp, ((At.box w1 #[.int .i64 X, .int .i64 Y] 77).2 0 _ rfl).1, ((At.box w1 #[.int .i64 X, .int .i64 Y] 77).2 1 _ rfl).1⟩)
      · clear HGX HGY HS1 HS2
        intro ac w1 zl hS hT hdf hB hF
        have hfr : ac.tmps = #[.pointer (some ⟨B + 1, 0, none⟩), .int .i64 5, .string b, .slice (some ⟨B + 2, 0, none⟩) 9 9, undef, undef, undef, undef, .bool false, .int .i64 (p : Int), u10, u11, u12, u13, u14, u15, u16, u17, u18, u19, u20, u21, u22, u23, u24, u25, u26, u27, u28, u29, u30, u31, u32, u33, u34, u35, u36, u37, u38, u39, u40, u41, u42, u43, u44, u45, u46, u47, u48, u49, u50, u51, u52, u53, u54, u55, u56, u57, u58, u59, u60, u61, u62, u63, u64, u65, u66, u67, u68, u69, u70, u71, u72, u73, u74, u75, u76, u77, u78, u79, u80, u81, u82, u83, .int .i64 (p : Int), .string b, .int .i64 ((N : Int) * 8), .bool (decide ((p : Int) < (N : Int) * 8)), u88, u89, (ac.tmps.getD 90 undef), (ac.tmps.getD 91 undef), (ac.tmps.getD 92 undef), (ac.tmps.getD 93 undef), (ac.tmps.getD 94 undef), (ac.tmps.getD 95 undef), (ac.tmps.getD 96 undef), (ac.tmps.getD 97 undef), (ac.tmps.getD 98 undef), (ac.tmps.getD 99 undef), (ac.tmps.getD 100 undef), (ac.tmps.getD 101 undef), (ac.tmps.getD 102 undef), (ac.tmps.getD 103 undef), (ac.tmps.getD 104 undef), (ac.tmps.getD 105 undef), (ac.tmps.getD 106 undef), (ac.tmps.getD 107 undef), (ac.tmps.getD 108 undef), (ac.tmps.getD 109 undef), (ac.tmps.getD 110 undef), (ac.tmps.getD 111 undef), (ac.tmps.getD 112 undef), u113, u114, u115, u116, u117, u118, u119, u120, u121, u122, u123, u124, u125, u126, u127, u128, u129, u130, u131, u132] := (frame_eq hT rfl hB).trans (by kernel_rfl)
        obtain ⟨T, df⟩ := ac
        have s94 : T.getD 94 undef = v := hF 4 _ 94 (by decide) (fun h => by cases h) rfl rfl
        obtain ⟨g9, s109, hg9, e9, e9'⟩ : ∃ g, T.getD 109 undef = .slice (some ⟨g, 0, none⟩) 1 1 ∧ g < w1.heap.size ∧ w1.cell? ⟨g, 0, none⟩ = some (.int .i64 X) ∧ w1.cell? ⟨g, 1, none⟩ = some (.int .i64 Y) := hF 19 _ 109 (by decide) (fun h => by cases h) rfl rfl
        have s90 : zl = true → T.getD 90 undef = .pointer (some ⟨B + 1, 0, none⟩) := fun h => hF 0 _ 90 (by decide) (fun _ => h) rfl rfl
        have sdf : df = [] := hdf
        simp only at hfr
        clear hB hF hT hdf
        generalize T.getD 90 undef = y90 at *
        generalize T.getD 91 undef = y91 at *
        generalize T.getD 92 undef = y92 at *
        generalize T.getD 93 undef = y93 at *
        generalize T.getD 94 undef = y94 at *
        generalize T.getD 95 undef = y95 at *
        generalize T.getD 96 undef = y96 at *
        generalize T.getD 97 undef = y97 at *
        generalize T.getD 98 undef = y98 at *
        generalize T.getD 99 undef = y99 at *
        generalize T.getD 100 undef = y100 at *
        generalize T.getD 101 undef = y101 at *
        generalize T.getD 102 undef = y102 at *
        generalize T.getD 103 undef = y103 at *
        generalize T.getD 104 undef = y104 at *
        generalize T.getD 105 undef = y105 at *
        generalize T.getD 106 undef = y106 at *
        generalize T.getD 107 undef = y107 at *
        generalize T.getD 108 undef = y108 at *
        generalize T.getD 109 undef = y109 at *
        generalize T.getD 110 undef = y110 at *
        generalize T.getD 111 undef = y111 at *
        generalize T.getD 112 undef = y112 at *
        subst hfr s94 s109 sdf
        refine wpOp_step (by rfl) fun Kc hKc => ?_
        rw [if_pos (by rfl)]
        have hown1 := own_later HO.out hS
        have hsz1 := Nat.le_trans hsz hS.size
        refine wp_append_own w1 (.tmp 94) (.tmp 109) 24 (by rfl) (B + 3) 77 i0 (.agg #[.int .i64 0, .int .i64 0]) 2 16 Tryd.underlying24 HI.out.1 HI.out.2.1 HI.out.2.2.1 HI.out.2.2.2 rfl (by decide) y94 k (flatR ((pairsL b.data.toList).take k)) (by rfl) hown1 ⟨g9, 0, none⟩ 1 1 [.int .i64 X, .int .i64 Y] (by rfl) rfl (two_news e9 e9') (by simp [Value.oneCell']) (by unfold maxLen; omega) (by omega) hsz1 ?_
        intro v9 w9 hown9 hgrow9 hnil9
        have hbg : Below (B + 3) w1 w9 := (Below.refl _ _).grown hgrow9 hsz1 (fun q e => (hown1.lt q e).1)
        have hA9 := (HA.out.later hS).below hbg (by omega)
        have hR9 := (HR.out.later hS).below hbg (by omega)
        have hb9 : Below (B + 1) w w9 := (hbl.trans (hS.mono (by omega))).trans (hbg.mono (by omega))
        have hsz9 := Nat.le_trans hsz1 hbg.size
        replace hown9 : w9.ownsRow (B + 3) 77 2 v9 (k + 1) (flatR ((pairsL b.data.toList).take (k + 1))) := by rw [HTKH.out, flatR_snoc]; exact hown9
        rcases id hown9.2 with ⟨-, hq⟩ | ⟨g, cap9, cur, rfl, hg, -⟩
        · omega
        clear hnil9 hgrow9 hbg hown1 hsz1 e9 e9' hg9 hS
        obtain ⟨⟨c0, c1, c2, c3, c4, c5, c6, c7⟩, ⟨f0, f1, f2, f3, f4, f5, f6, f7⟩, -⟩ := hA9.eight
        apply hKc
        clear hKc Kc
        cases zl
        · clear s90
          refine any_one (i := 0) (by kernel_rfl) (by rfl) ?_
          intro Kc hKc
          rw [if_pos (by rfl)]
          go_simp
          apply hKc
          clear hKc Kc
          refine any_one (i := 21) (by kernel_rfl) (by rfl) ?_
          intro Kc hKc
          rw [if_pos (by rfl)]
          go_simp
          apply hKc
          clear hKc Kc
          refine any_one (i := 22) (by kernel_rfl) (by rfl) ?_
          intro Kc hKc
          rw [if_pos (by rfl)]
          go_simp
          apply hKc
          clear hKc Kc
          refine any_one (i := 23) (by kernel_rfl) (by rfl) ?_
          intro Kc hKc
          rw [if_pos (by rfl)]
          go_simp
          apply hKc
          clear hKc Kc
          refine any_done (by kernel_rfl) ?_
          go_wp2
          go_roundw
          case rel => exact ⟨k + 1, _, by omega, by rw [Nat.add_mul, ← HP.out]; go_num, hb9.setCell (by show B + 1 ≤ B + 1; omega) _, by rw [World.size_setCell]; exact hsz9, hA9.set 7 _, hR9.keep (by omega) 7 _, own_setCell hown9 (B + 1) 7 _ (by omega)⟩
          case measure => simp [intOf]; omega
        · have s90' := s90 rfl
          clear s90
          subst s90'
          refine any_one (i := 21) (by kernel_rfl) (by rfl) ?_
          intro Kc hKc
          rw [if_pos (by rfl)]
          go_simp
          apply hKc
          clear hKc Kc
          refine any_one (i := 22) (by kernel_rfl) (by rfl) ?_
          intro Kc hKc
          rw [if_pos (by rfl)]
          go_simp
          apply hKc
          clear hKc Kc
          refine any_one (i := 23) (by kernel_rfl) (by rfl) ?_
          intro Kc hKc
          rw [if_pos (by rfl)]
          go_simp
          apply hKc
          clear hKc Kc
          refine any_done (by kernel_rfl) ?_
          go_wp2
          go_roundw
          case rel => exact ⟨k + 1, _, by omega, by rw [Nat.add_mul, ← HP.out]; go_num, hb9.setCell (by show B + 1 ≤ B + 1; omega) _, by rw [World.size_setCell]; exact hsz9, hA9.set 7 _, hR9.keep (by omega) 7 _, own_setCell hown9 (B + 1) 7 _ (by omega)⟩
          case measure => simp [intOf]; omega
    · have hkN : k = N := by omega
      subst hkN
      have hg : ¬ ((k * 8 : Nat) : Int) < (b.size : Int) := by omega
      rw [List.take_of_length_le (by rw [HPL.out]; exact Nat.le_refl _)] at hown
      have HE : Hid (wr.ownsRow (B + 3) 77 2 v (pairsL b.data.toList).length (flatR (pairsL b.data.toList)) ∧ At wr (B + 1) #[.int .i64 m, .int .i64 c, .int .i64 t, .int .i64 ec, .bool sd, .bool ok, .bool sp, v] ∧ At wr (B + 2) #[.bool false, .bool false, .bool (m != 0), .bool sd, .bool ok, .bool (decide (0 < (pairsL b.data.toList).length)), .bool false, .bool false, .bool sp] ∧ (pairsL b.data.toList = [] → v = .slice none 0 0)) := by
        refine ⟨by rw [HPL.out]; exact hown, hA, ?_, fun h => ?_⟩
        · rw [HPL.out, decide_eq_true (by omega)]; exact hR
        · have := HPL.out; rw [h] at this; simp at this; omega
      clear hown hA hR
      go_wp2
      go_ret
      exact ⟨v, rfl, HE.out.2.1, HE.out.2.2.1, HE.out.1, HE.out.2.2.2, hbl⟩
end Go.Proofs.YtecoknenkjgmjabDoor
