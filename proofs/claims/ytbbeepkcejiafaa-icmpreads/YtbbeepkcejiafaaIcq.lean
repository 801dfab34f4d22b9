/- The contract of the document's Decode of ICMP packets: the packet that the bytes are; nothing that was there turns. -/
import Derived.Test.YtbbeepkcejiafaaIcd
import Derived.Test.YtbbeepkcejiafaaFactsC
namespace Go.Proofs.Ytbbeepkcejiafaa
open Go.RowKit

theorem irwh_t {s : ByteArray} (h : (sumS s == 0) = true) (w : World) (hs : s.size ≤ maxLen) : Calls Try.prog 30 #[.string s] w fun e w' => e = .returned (.bool true) ∧ w' = w := by
  have := rwhole_any s w hs; rw [h] at this; exact this
theorem irwh_f {s : ByteArray} (h : (sumS s == 0) = false) (w : World) (hs : s.size ≤ maxLen) : Calls Try.prog 30 #[.string s] w fun e w' => e = .returned (.bool false) ∧ w' = w := by
  have := rwhole_any s w hs; rw [h] at this; exact this
theorem one_at (s : ByteArray) (i : Nat) (h : i < s.size) : (s[i].toNat : Int) = numS (s.extract i (i + 1)) := by
  unfold numS
  rw [ext_toList, show i + 1 - i = 1 by omega]
  have hl : i < s.data.toList.length := by rw [len_toList]; exact h
  rw [List.drop_eq_getElem_cons hl]
  simp [numL, ByteArray.getElem_eq_getElem_data]

set_option maxHeartbeats 1000000 in
theorem irdec_1 {s : ByteArray} (h : (s.size : Int) < 8 ∨ 8 ≤ (s.size : Int) ∧ 65508 < (s.size : Int)) (w : World) (hs : s.size ≤ 1125899906842624) :
    Calls Try.prog 17 #[.string s] w fun e w' => e = .returned (.tuple #[.agg #[.int .i64 0, .int .i64 0, .int .i64 0, .int .i64 0, .string ⟨#[]⟩], .int .i64 60]) ∧ Below w.heap.size w w' := by
  have hs' : (s.size : Int) ≤ 1125899906842624 := by omega
  have hl := bel1 w (.cells #[.int .i64 0, .int .i64 0, .int .i64 0, .int .i64 0, .string ⟨#[]⟩] 23)
  rcases h with h | ⟨h, h2⟩
  all_goals
    go_enter Try.func17, Try.ntmps17
    go_wp2
    exact bodyPost_ret (v := .tuple #[.agg #[.int .i64 0, .int .i64 0, .int .i64 0, .int .i64 0, .string ⟨#[]⟩], .int .i64 60]) (by simp [results, Try.results17, go_sem]) rfl ⟨rfl, hl⟩
set_option maxHeartbeats 1000000 in
theorem irdec_2 {s : ByteArray} (h8 : 8 ≤ (s.size : Int)) (h9 : (s.size : Int) ≤ 65508) (h : (sumS s == 0) = false) (w : World) :
    Calls Try.prog 17 #[.string s] w fun e w' => e = .returned (.tuple #[.agg #[.int .i64 0, .int .i64 0, .int .i64 0, .int .i64 0, .string ⟨#[]⟩], .int .i64 20]) ∧ Below w.heap.size w w' := by
  have hl := bel1 w (.cells #[.int .i64 0, .int .i64 0, .int .i64 0, .int .i64 0, .string ⟨#[]⟩] 23)
  have hR := At.box w #[.int .i64 0, .int .i64 0, .int .i64 0, .int .i64 0, .string ⟨#[]⟩] 23
  go_enter Try.func17, Try.ntmps17
  go_wp2_with fail
  refine (irwh_f h _ (by unfold maxLen; omega)).mono ?_
  rintro e w1 ⟨rfl, rfl⟩
  go_wp2
  exact bodyPost_ret (v := .tuple #[.agg #[.int .i64 0, .int .i64 0, .int .i64 0, .int .i64 0, .string ⟨#[]⟩], .int .i64 20]) (by simp [results, Try.results17, go_sem]) rfl ⟨rfl, hl⟩

theorem irun_sl (s : ByteArray) (a b : Nat) (v : ByteArray) (hx : s.extract a b = v) (h : b ≤ s.size) (hab : a ≤ b) : ∀ W, (Instr.slice 9 (.string s) (some (.int .i64 (a : Int))) (some (.int .i64 (b : Int))) none).run Try.prog W = .ok (.string v) W := fun W => by
  rw [run_slice_string_if W 9 s .i64 .i64 a b Try.underlying9, if_pos ⟨by omega, by omega⟩, if_pos ⟨by omega, by omega⟩, ← hx]; rfl
theorem irun_from (s : ByteArray) (a : Nat) (v : ByteArray) (hx : s.extract a s.size = v) (h : a ≤ s.size) : ∀ W, (Instr.slice 9 (.string s) (some (.int .i64 (a : Int))) none none).run Try.prog W = .ok (.string v) W := fun W => by
  rw [run_slice_string_from_if W 9 s .i64 a Try.underlying9, if_pos ⟨by omega, by omega⟩, ← hx]; rfl
theorem irun_ix (s : ByteArray) (i : Nat) (x : Int) (h : i < s.size) (hx : (s[i].toNat : Int) = x) : ∀ W, (Instr.index 9 (.string s) (.int .i64 (i : Int))).run Try.prog W = .ok (.int .u8 x) W := fun W => by
  rw [run_index_string W 9 s .i64 i Try.underlying9, dif_pos ⟨by omega, by omega⟩, ← hx]; rfl

set_option maxRecDepth 100000 in
set_option maxHeartbeats 4000000 in
theorem irdec_e {s : ByteArray} (h8 : 8 ≤ (s.size : Int)) (h9 : (s.size : Int) ≤ 65508) (h : (sumS s == 0) = true) (w : World) (X1 X2 X3 X4 : Int) (X5 V3 V4 : ByteArray)
    (n3 : numS V3 = X3) (n4 : numS V4 = X4) (z3 : V3.size ≤ 6) (z4 : V4.size ≤ 6)
    (i1 : ∀ W, (Instr.index 9 (.string s) (.int .i64 0)).run Try.prog W = .ok (.int .u8 X1) W)
    (i2 : ∀ W, (Instr.index 9 (.string s) (.int .i64 1)).run Try.prog W = .ok (.int .u8 X2) W)
    (q3 : ∀ W, (Instr.slice 9 (.string s) (some (.int .i64 4)) (some (.int .i64 6)) none).run Try.prog W = .ok (.string V3) W)
    (q4 : ∀ W, (Instr.slice 9 (.string s) (some (.int .i64 6)) (some (.int .i64 8)) none).run Try.prog W = .ok (.string V4) W)
    (q5 : ∀ W, (Instr.slice 9 (.string s) (some (.int .i64 8)) none none).run Try.prog W = .ok (.string X5) W)
    (y1 : IntKind.i64.wrap X1 = X1) (y2 : IntKind.i64.wrap X2 = X2) :
    Calls Try.prog 17 #[.string s] w fun e w' => e = .returned (.tuple #[.agg #[.int .i64 X1, .int .i64 X2, .int .i64 X3, .int .i64 X4, .string X5], .int .i64 0]) ∧ Below w.heap.size w w' := by
  have hl := bel1 w (.cells #[.int .i64 0, .int .i64 0, .int .i64 0, .int .i64 0, .string ⟨#[]⟩] 23)
  have hR := At.box w #[.int .i64 0, .int .i64 0, .int .i64 0, .int .i64 0, .string ⟨#[]⟩] 23
  go_enter Try.func17, Try.ntmps17
  go_wp2_with fail
  refine (irwh_t h _ (by unfold maxLen; omega)).mono ?_
  rintro e w1 ⟨rfl, rfl⟩
  go_wp2
  refine wp_region_any (by kernel_rfl) ?_
  have HS0 : Below w.heap.size w (w.alloc (.cells #[.int .i64 0, .int .i64 0, .int .i64 0, .int .i64 0, .string ⟨#[]⟩] 23)).drew ∧ At (w.alloc (.cells #[.int .i64 0, .int .i64 0, .int .i64 0, .int .i64 0, .string ⟨#[]⟩] 23)).drew w.heap.size #[.int .i64 0, .int .i64 0, .int .i64 0, .int .i64 0, .string ⟨#[]⟩] := ⟨hl.drew, hR⟩
  clear hl hR
  refine region_facts_tail (fun W => Below w.heap.size w W ∧ At W w.heap.size #[.int .i64 0, .int .i64 0, .int .i64 0, .int .i64 0, .string ⟨#[]⟩]) (GV (fun i => match i with | 0 => .string s | 1 => .int .u8 X1 | 2 => .int .i64 X1 | 3 => .string s | 4 => .int .u8 X2 | 5 => .int .i64 X2 | 6 => .string s | 7 => .string V3 | 8 => .int .i64 X3 | 9 => .string s | 10 => .string V4 | 11 => .int .i64 X4 | 12 => .string s | 13 => .string X5 | 14 => .agg #[.int .i64 X1, .int .i64 X2, .int .i64 X3, .int .i64 X4, .string X5] | _ => undef) (fun _ => none)) (n := 32) 15 (by kernel_rfl) (by kernel_rfl) rfl (by kernel_rfl) (GV_later _ _) ?_ ?_ HS0 (Nat.le_refl _)
  · clear HS0
    refine ⟨?_, ?_, ?_, ?_, ?_, ?_, ?_, ?_, ?_, ?_, ?_, ?_, ?_, ?_, ?_, trivial⟩
    · intro a w1 hS hT hB hD K hK
      have b0 : a.tmps.getD 0 undef = .string s := hB 0 (by kernel_rfl)
      rw [if_pos (by rfl)]
      clear hB hD hT
      go_simp
      exact hK _ _ hS (Below.refl _ _) rfl
    · intro a w1 hS hT hB hD K hK
      have d17 : a.tmps.getD 17 undef = .string s := hD ⟨0, .data⟩ (by simp) rfl _ 17 rfl rfl
      rw [if_pos (by rfl)]
      clear hB hD hT
      go_simp
      exact hK _ _ hS (Below.refl _ _) rfl
    · intro a w1 hS hT hB hD K hK
      have d18 : a.tmps.getD 18 undef = .int .u8 X1 := hD ⟨1, .data⟩ (by simp) rfl _ 18 rfl rfl
      rw [if_pos (by rfl)]
      clear hB hD hT
      go_simp
      exact hK _ _ hS (Below.refl _ _) rfl
    · intro a w1 hS hT hB hD K hK
      have b0 : a.tmps.getD 0 undef = .string s := hB 0 (by kernel_rfl)
      rw [if_pos (by rfl)]
      clear hB hD hT
      go_simp
      exact hK _ _ hS (Below.refl _ _) rfl
    · intro a w1 hS hT hB hD K hK
      have d20 : a.tmps.getD 20 undef = .string s := hD ⟨3, .data⟩ (by simp) rfl _ 20 rfl rfl
      rw [if_pos (by rfl)]
      clear hB hD hT
      go_simp
      exact hK _ _ hS (Below.refl _ _) rfl
    · intro a w1 hS hT hB hD K hK
      have d21 : a.tmps.getD 21 undef = .int .u8 X2 := hD ⟨4, .data⟩ (by simp) rfl _ 21 rfl rfl
      rw [if_pos (by rfl)]
      clear hB hD hT
      go_simp
      exact hK _ _ hS (Below.refl _ _) rfl
    · intro a w1 hS hT hB hD K hK
      have b0 : a.tmps.getD 0 undef = .string s := hB 0 (by kernel_rfl)
      rw [if_pos (by rfl)]
      clear hB hD hT
      go_simp
      exact hK _ _ hS (Below.refl _ _) rfl
    · intro a w1 hS hT hB hD K hK
      have d23 : a.tmps.getD 23 undef = .string s := hD ⟨6, .data⟩ (by simp) rfl _ 23 rfl rfl
      rw [if_pos (by rfl)]
      clear hB hD hT
      go_simp
      exact hK _ _ hS (Below.refl _ _) rfl
    · intro a w1 hS hT hB hD K hK
      have d24 : a.tmps.getD 24 undef = .string V3 := hD ⟨7, .data⟩ (by simp) rfl _ 24 rfl rfl
      rw [if_pos (by rfl)]
      clear hB hD hT
      go_simp
      refine (num_any _ _ (by assumption)).mono ?_
      rintro e w' ⟨rfl, rfl⟩
      exact hK _ _ hS (Below.refl _ _) (by show Value.int .i64 _ = Value.int .i64 _; congr)
    · intro a w1 hS hT hB hD K hK
      have b0 : a.tmps.getD 0 undef = .string s := hB 0 (by kernel_rfl)
      rw [if_pos (by rfl)]
      clear hB hD hT
      go_simp
      exact hK _ _ hS (Below.refl _ _) rfl
    · intro a w1 hS hT hB hD K hK
      have d26 : a.tmps.getD 26 undef = .string s := hD ⟨9, .data⟩ (by simp) rfl _ 26 rfl rfl
      rw [if_pos (by rfl)]
      clear hB hD hT
      go_simp
      exact hK _ _ hS (Below.refl _ _) rfl
    · intro a w1 hS hT hB hD K hK
      have d27 : a.tmps.getD 27 undef = .string V4 := hD ⟨10, .data⟩ (by simp) rfl _ 27 rfl rfl
      rw [if_pos (by rfl)]
      clear hB hD hT
      go_simp
      refine (num_any _ _ (by assumption)).mono ?_
      rintro e w' ⟨rfl, rfl⟩
      exact hK _ _ hS (Below.refl _ _) (by show Value.int .i64 _ = Value.int .i64 _; congr)
    · intro a w1 hS hT hB hD K hK
      have b0 : a.tmps.getD 0 undef = .string s := hB 0 (by kernel_rfl)
      rw [if_pos (by rfl)]
      clear hB hD hT
      go_simp
      exact hK _ _ hS (Below.refl _ _) rfl
    · intro a w1 hS hT hB hD K hK
      have d29 : a.tmps.getD 29 undef = .string s := hD ⟨12, .data⟩ (by simp) rfl _ 29 rfl rfl
      rw [if_pos (by rfl)]
      clear hB hD hT
      go_simp
      exact hK _ _ hS (Below.refl _ _) rfl
    · intro a w1 hS hT hB hD K hK
      have d19 : a.tmps.getD 19 undef = .int .i64 X1 := hD ⟨2, .data⟩ (by simp) rfl _ 19 rfl rfl
      have d22 : a.tmps.getD 22 undef = .int .i64 X2 := hD ⟨5, .data⟩ (by simp) rfl _ 22 rfl rfl
      have d25 : a.tmps.getD 25 undef = .int .i64 X3 := hD ⟨8, .data⟩ (by simp) rfl _ 25 rfl rfl
      have d28 : a.tmps.getD 28 undef = .int .i64 X4 := hD ⟨11, .data⟩ (by simp) rfl _ 28 rfl rfl
      have d30 : a.tmps.getD 30 undef = .string X5 := hD ⟨13, .data⟩ (by simp) rfl _ 30 rfl rfl
      clear hB hD
      obtain ⟨⟨l⟩, df⟩ := a
      match l, hT with
      | x0 :: x1 :: x2 :: x3 :: x4 :: x5 :: x6 :: x7 :: x8 :: x9 :: x10 :: x11 :: x12 :: x13 :: x14 :: x15 :: x16 :: x17 :: x18 :: x19 :: x20 :: x21 :: x22 :: x23 :: x24 :: x25 :: x26 :: x27 :: x28 :: x29 :: x30 :: x31 :: [], _ =>
        have q19 : x19 = .int .i64 X1 := d19
        have q22 : x22 = .int .i64 X2 := d22
        have q25 : x25 = .int .i64 X3 := d25
        have q28 : x28 = .int .i64 X4 := d28
        have q30 : x30 = .string X5 := d30
        clear d19 d22 d25 d28 d30
        subst q19 q22 q25 q28 q30
        rw [if_pos (by rfl)]
        go_simp
        exact hK _ _ hS (Below.refl _ _) rfl
  · intro a w1 hS hT hdf hB hF
    clear HS0
    obtain ⟨⟨l⟩, df⟩ := a
    match l, hT with
    | x0 :: x1 :: x2 :: x3 :: x4 :: x5 :: x6 :: x7 :: x8 :: x9 :: x10 :: x11 :: x12 :: x13 :: x14 :: x15 :: x16 :: x17 :: x18 :: x19 :: x20 :: x21 :: x22 :: x23 :: x24 :: x25 :: x26 :: x27 :: x28 :: x29 :: x30 :: x31 :: [], _ =>
      have s2 : x2 = .pointer (some ⟨w.heap.size, 0, none⟩) := hB 2 (by kernel_rfl)
      have s31 : x31 = .agg #[.int .i64 X1, .int .i64 X2, .int .i64 X3, .int .i64 X4, .string X5] := hF 14 _ 31 (by decide) rfl rfl
      have sd : df = [] := hdf
      subst s2 s31 sd
      clear hB hF
      obtain ⟨⟨r0, r1, r2, r3, r4⟩, ⟨f0, f1, f2, f3, f4⟩, hlt⟩ := hS.2.five
      intro K hK
      rw [if_pos (by rfl)]
      go_simp
      apply hK
      clear hK K
      intro K hK
      rw [if_pos (by rfl)]
      go_simp
      apply hK
      clear hK K
      refine TailOk_nil ?_
      go_wp2
      exact bodyPost_ret (v := .tuple #[.agg #[.int .i64 X1, .int .i64 X2, .int .i64 X3, .int .i64 X4, .string X5], .int .i64 0]) (by simp [results, Try.results17, go_sem, r0, r1, r2, r3, r4]) rfl ⟨rfl, below5 hS.1 (Nat.le_refl _) _ _ _ _ _⟩
theorem irdec_3 {s : ByteArray} (h8 : 8 ≤ (s.size : Int)) (h9 : (s.size : Int) ≤ 65508) (h : (sumS s == 0) = true) (w : World) :
    Calls Try.prog 17 #[.string s] w fun e w' => e = .returned (.tuple #[.agg #[.int .i64 (iTy s), .int .i64 (iCo s), .int .i64 (iX s), .int .i64 (iY s), .string (iDa s)], .int .i64 0]) ∧ Below w.heap.size w w' := by
  have e1 : (s[0].toNat : Int) = iTy s := one_at s 0 (by omega)
  have e2 : (s[1].toNat : Int) = iCo s := one_at s 1 (by omega)
  have b1 : 0 ≤ iTy s ∧ iTy s ≤ 255 := by rw [← e1]; have := (s[0]'(by omega)).toNat_lt; omega
  have b2 : 0 ≤ iCo s ∧ iCo s ≤ 255 := by rw [← e2]; have := (s[1]'(by omega)).toNat_lt; omega
  exact irdec_e h8 h9 h w (iTy s) (iCo s) (iX s) (iY s) (iDa s) (s.extract 4 6) (s.extract 6 8) rfl rfl (by rw [ByteArray.size_extract]; omega) (by rw [ByteArray.size_extract]; omega) (irun_ix s 0 _ (by omega) e1) (irun_ix s 1 _ (by omega) e2) (irun_sl s 4 6 _ rfl (by omega) (by decide)) (irun_sl s 6 8 _ rfl (by omega) (by decide)) (irun_from s 8 _ rfl (by omega)) (by rw [IntKind.wrap_i64]; omega) (by rw [IntKind.wrap_i64]; omega)
end Go.Proofs.Ytbbeepkcejiafaa
