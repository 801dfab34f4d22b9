/- The contracts of the document's Bytes and Encode of ICMP packets: each returns just the values named here; nothing that was there turns. -/
import Derived.Test.YtbbeepkcejiafaaIce
import Derived.Test.YtbbeepkcejiafaaFacts
namespace Go.Proofs.Ytbbeepkcejiafaa
open Go.RowKit

def itx (n k : Int) : ByteArray := txt n k.toNat
theorem itx_size (n k : Int) : (itx n k).size = k.toNat := txt_size _ _
theorem irtext (n k : Int) (w : World) (k0 : 1 ≤ k) (k1 : k ≤ 6) :
    Calls Try.prog 45 #[.int .i64 n, .int .i64 k] w fun e w' => e = .returned (.string (itx n k)) ∧ Below w.heap.size w w' := by
  obtain ⟨K, rfl⟩ := Int.eq_ofNat_of_zero_le (show 0 ≤ k by omega)
  exact rtext_any n K w (by omega) (by omega)
theorem ilow_byte (n : Int) : n % 256 = ((byteAt n 0).toNat : Int) := by rw [byteAt_toNat]; simp
theorem iu8_wrap (n : Int) : IntKind.u8.wrap n = ((byteAt n 0).toNat : Int) := by rw [IntKind.wrap_u8']; exact ilow_byte n
def IV (ty co : Int) : ByteArray := ⟨[byteAt ty 0, byteAt co 0, 0, 0].toArray⟩
theorem IV_is (ty co : Int) : IV ty co = txt ty 1 ++ txt co 1 ++ txt 0 2 := by
  apply ba_toList
  rw [app_toList, app_toList, txt_toList, txt_toList, txt_toList]
  simp [IV, txtL, byteAt, List.range_succ]
theorem ihead_is (ty co x y : Int) (da : ByteArray) : IV ty co ++ itx x 2 ++ itx y 2 ++ da = headI ty co x y da := by
  rw [IV_is]
  unfold itx headI
  simp only [ByteArray.append_assoc]
  rfl

set_option maxRecDepth 100000 in
set_option maxHeartbeats 4000000 in
theorem irby_h (ty co x y : Int) (da : ByteArray) (w : World) (hz : da.size ≤ 65500) :
    Calls Try.prog 27 #[.agg #[.int .i64 ty, .int .i64 co, .int .i64 x, .int .i64 y, .string da]] w fun e w' => e = .returned (.string (sealS (IV ty co ++ itx x 2 ++ itx y 2 ++ da) 2)) ∧ Below w.heap.size w w' := by
  have hx5 := And.intro (bel1 w (.cells #[.int .i64 ty, .int .i64 co, .int .i64 x, .int .i64 y, .string da] 23)) (At.box w #[.int .i64 ty, .int .i64 co, .int .i64 x, .int .i64 y, .string da] 23).five.1
  have u1 := iu8_wrap ty
  have u2 := iu8_wrap co
  have u1' := ilow_byte ty
  have u2' := ilow_byte co
  obtain ⟨T0, hT0⟩ : ∃ T, T = IV ty co := ⟨_, rfl⟩
  have zT0 : T0.size = 4 := by rw [hT0]; rfl
  have k24 : (2 : Int).toNat = 2 := rfl
  have r1 : ∀ W, (Op.stringOp .add T0 (itx x 2)).run Try.prog W = .ok (.string (T0 ++ (itx x 2))) W := fun W => run_string_add_sum W _ _ (by simp only [itx_size, zT0]; omega)
  have r2 : ∀ W, (Op.stringOp .add (T0 ++ (itx x 2)) (itx y 2)).run Try.prog W = .ok (.string (T0 ++ (itx x 2) ++ (itx y 2))) W := fun W => run_string_add_sum W _ _ (by simp only [ByteArray.size_append, itx_size, zT0]; omega)
  have r3 : ∀ W, (Op.stringOp .add (T0 ++ (itx x 2) ++ (itx y 2)) da).run Try.prog W = .ok (.string (T0 ++ (itx x 2) ++ (itx y 2) ++ da)) W := fun W => run_string_add_sum W _ _ (by simp only [ByteArray.size_append, itx_size, zT0]; omega)
  have hsz : (T0 ++ (itx x 2) ++ (itx y 2) ++ da).size = 8 + da.size := by simp only [ByteArray.size_append, itx_size, zT0]; omega
  have hse := fun W => sealed_ok (T0 ++ (itx x 2) ++ (itx y 2) ++ da) 2 W (by omega) (by decide) (by omega) (by decide)
  rw [← hT0]
  have HT0 : Hid (T0 = IV ty co) := hT0
  have HSE : Hid (∀ W, Calls Try.prog 44 #[.string (T0 ++ (itx x 2) ++ (itx y 2) ++ da), .int .i64 2] W fun e w' => e = .returned (.string (sealS (T0 ++ (itx x 2) ++ (itx y 2) ++ da) 2)) ∧ Below W.heap.size W w') := hse
  clear hse hsz zT0 k24 hT0
  have HX6 : Hid (Below w.heap.size w (w.alloc (.cells #[.int .i64 ty, .int .i64 co, .int .i64 x, .int .i64 y, .string da] 23)).drew ∧ (w.alloc (.cells #[.int .i64 ty, .int .i64 co, .int .i64 x, .int .i64 y, .string da] 23)).drew.cell? ⟨w.heap.size, 0, none⟩ = some (.int .i64 ty) ∧ (w.alloc (.cells #[.int .i64 ty, .int .i64 co, .int .i64 x, .int .i64 y, .string da] 23)).drew.cell? ⟨w.heap.size, 1, none⟩ = some (.int .i64 co) ∧ (w.alloc (.cells #[.int .i64 ty, .int .i64 co, .int .i64 x, .int .i64 y, .string da] 23)).drew.cell? ⟨w.heap.size, 2, none⟩ = some (.int .i64 x) ∧ (w.alloc (.cells #[.int .i64 ty, .int .i64 co, .int .i64 x, .int .i64 y, .string da] 23)).drew.cell? ⟨w.heap.size, 3, none⟩ = some (.int .i64 y) ∧ (w.alloc (.cells #[.int .i64 ty, .int .i64 co, .int .i64 x, .int .i64 y, .string da] 23)).drew.cell? ⟨w.heap.size, 4, none⟩ = some (.string da)) := ⟨hx5.1.drew, hx5.2⟩
  clear hx5
  go_enter Try.func27, Try.ntmps27
  go_wp2
  refine wp_region_any (by kernel_rfl) ?_
  refine region_facts (fun W => Below w.heap.size w W ∧ W.cell? ⟨w.heap.size, 0, none⟩ = some (.int .i64 ty) ∧ W.cell? ⟨w.heap.size, 1, none⟩ = some (.int .i64 co) ∧ W.cell? ⟨w.heap.size, 2, none⟩ = some (.int .i64 x) ∧ W.cell? ⟨w.heap.size, 3, none⟩ = some (.int .i64 y) ∧ W.cell? ⟨w.heap.size, 4, none⟩ = some (.string da)) (GV (fun i => match i with | 0 => .pointer (some ⟨w.heap.size, 0, none⟩) | 1 => .int .i64 (ty) | 2 => .int .u8 ((byteAt ty 0).toNat : Int) | 3 => .pointer (some ⟨w.heap.size, 1, none⟩) | 4 => .int .i64 (co) | 5 => .int .u8 ((byteAt co 0).toNat : Int) | 7 => .string (T0) | 8 => .pointer (some ⟨w.heap.size, 2, none⟩) | 9 => .int .i64 (x) | 10 => .string (itx x 2) | 11 => .string (T0 ++ (itx x 2)) | 12 => .pointer (some ⟨w.heap.size, 3, none⟩) | 13 => .int .i64 (y) | 14 => .string (itx y 2) | 15 => .string (T0 ++ (itx x 2) ++ (itx y 2)) | 16 => .pointer (some ⟨w.heap.size, 4, none⟩) | 17 => .string (da) | 18 => .string (T0 ++ (itx x 2) ++ (itx y 2) ++ da) | 19 => .string (sealS (T0 ++ (itx x 2) ++ (itx y 2) ++ da) 2) | 20 => .string (sealS (T0 ++ (itx x 2) ++ (itx y 2) ++ da) 2) | _ => undef) (fun i => match i with | 6 => some [.int .u8 ((byteAt ty 0).toNat : Int), .int .u8 ((byteAt co 0).toNat : Int), .int .u8 0, .int .u8 0] | _ => none)) (n := 23) (by kernel_rfl) rfl (by kernel_rfl) (GV_later _ _) ?_ ?_ HX6.out (Nat.le_refl _)
  · clear HX6
    refine ⟨?_, ?_, ?_, ?_, ?_, ?_, ?_, ?_, ?_, ?_, ?_, ?_, ?_, ?_, ?_, ?_, ?_, ?_, ?_, ?_, ?_, trivial⟩
    · intro a w1 hS hT hB hD K hK
      have b1 : a.tmps.getD 1 undef = .pointer (some ⟨w.heap.size, 0, none⟩) := hB 1 (by kernel_rfl)
      rw [if_pos (by rfl)]
      clear hB hD hT
      go_simp
      exact hK _ _ hS (Below.refl _ _) rfl
    · intro a w1 hS hT hB hD K hK
      have d3 : a.tmps.getD 3 undef = .pointer (some ⟨w.heap.size, 0, none⟩) := hD ⟨0, .data⟩ (by simp) rfl _ 3 rfl rfl
      rw [if_pos (by rfl)]
      clear hB hD hT
      go_simp
      exact hK _ _ hS (Below.refl _ _) rfl
    · intro a w1 hS hT hB hD K hK
      have d4 : a.tmps.getD 4 undef = .int .i64 (ty) := hD ⟨1, .data⟩ (by simp) rfl _ 4 rfl rfl
      rw [if_pos (by rfl)]
      clear hB hD hT
      go_simp
      exact hK _ _ hS (Below.refl _ _) rfl
    · intro a w1 hS hT hB hD K hK
      have b1 : a.tmps.getD 1 undef = .pointer (some ⟨w.heap.size, 0, none⟩) := hB 1 (by kernel_rfl)
      rw [if_pos (by rfl)]
      clear hB hD hT
      go_simp
      exact hK _ _ hS (Below.refl _ _) rfl
    · intro a w1 hS hT hB hD K hK
      have d6 : a.tmps.getD 6 undef = .pointer (some ⟨w.heap.size, 1, none⟩) := hD ⟨3, .data⟩ (by simp) rfl _ 6 rfl rfl
      rw [if_pos (by rfl)]
      clear hB hD hT
      go_simp
      exact hK _ _ hS (Below.refl _ _) rfl
    · intro a w1 hS hT hB hD K hK
      have d7 : a.tmps.getD 7 undef = .int .i64 (co) := hD ⟨4, .data⟩ (by simp) rfl _ 7 rfl rfl
      rw [if_pos (by rfl)]
      clear hB hD hT
      go_simp
      exact hK _ _ hS (Below.refl _ _) rfl
    · intro a w1 hS hT hB hD K hK
      have d5 : a.tmps.getD 5 undef = .int .u8 ((byteAt ty 0).toNat : Int) := hD ⟨2, .data⟩ (by simp) rfl _ 5 rfl rfl
      have d8 : a.tmps.getD 8 undef = .int .u8 ((byteAt co 0).toNat : Int) := hD ⟨5, .data⟩ (by simp) rfl _ 8 rfl rfl
      clear hB hD
      obtain ⟨⟨l⟩, df⟩ := a
      match l, hT with
      | x0 :: x1 :: x2 :: x3 :: x4 :: x5 :: x6 :: x7 :: x8 :: x9 :: x10 :: x11 :: x12 :: x13 :: x14 :: x15 :: x16 :: x17 :: x18 :: x19 :: x20 :: x21 :: x22 :: [], _ =>
        have q5 : x5 = .int .u8 ((byteAt ty 0).toNat : Int) := d5
        have q8 : x8 = .int .u8 ((byteAt co 0).toNat : Int) := d8
        clear d5 d8
        subst q5 q8
        rw [if_pos (by rfl)]
        go_simp
        exact hK _ _ (keepI (bel1 _ _) hS) (bel1 _ _) ⟨_, rfl, by simp, fun k c hk => ((At.box w1 (List.toArray [.int .u8 ((byteAt ty 0).toNat : Int), .int .u8 ((byteAt co 0).toNat : Int), .int .u8 0, .int .u8 0]) 5).2 k c (by simpa using hk)).1⟩
    · intro a w1 hS hT hB hD K hK
      obtain ⟨g, d9, hlt, hc⟩ := hD ⟨6, .data⟩ (by simp) rfl _ 9 rfl rfl
      rw [if_pos (by rfl)]
      clear hB hD hT
      have hcv := run_convert_bytes_back (P := Try.prog) w1 39 9 5 ⟨g, 0, none⟩ 4 [byteAt ty 0, byteAt co 0, 0, 0] Try.underlying39 Try.underlying5 Try.underlying9 (by
        intro k hk; rw [Addr.add_lit, Nat.zero_add]
        have : k < 4 := hk
        obtain rfl | rfl | rfl | rfl : k = 0 ∨ k = 1 ∨ k = 2 ∨ k = 3 := by omega
        · exact hc 0 _ rfl
        · exact hc 1 _ rfl
        · exact hc 2 _ rfl
        · exact hc 3 _ rfl)
      clear hc
      have d' : a.tmps.getD 9 undef = .slice (some ⟨g, 0, none⟩) 4 4 := d9
      have hcw : (convert 39 9 (.slice (some ⟨g, 0, none⟩) 4 4)).run Try.prog w1 = .ok (.string T0) w1 := by rw [HT0.out]; exact hcv
      clear d9 hcv
      go_simp
      exact hK _ _ hS (Below.refl _ _) rfl
    · intro a w1 hS hT hB hD K hK
      have b1 : a.tmps.getD 1 undef = .pointer (some ⟨w.heap.size, 0, none⟩) := hB 1 (by kernel_rfl)
      rw [if_pos (by rfl)]
      clear hB hD hT
      go_simp
      exact hK _ _ hS (Below.refl _ _) rfl
    · intro a w1 hS hT hB hD K hK
      have d11 : a.tmps.getD 11 undef = .pointer (some ⟨w.heap.size, 2, none⟩) := hD ⟨8, .data⟩ (by simp) rfl _ 11 rfl rfl
      rw [if_pos (by rfl)]
      clear hB hD hT
      go_simp
      exact hK _ _ hS (Below.refl _ _) rfl
    · intro a w1 hS hT hB hD K hK
      have d12 : a.tmps.getD 12 undef = .int .i64 (x) := hD ⟨9, .data⟩ (by simp) rfl _ 12 rfl rfl
      rw [if_pos (by rfl)]
      clear hB hD hT
      go_simp
      refine (irtext _ _ _ (by decide) (by decide)).mono ?_
      rintro e w' ⟨rfl, hb⟩
      exact hK _ _ (keepI hb hS) hb rfl
    · intro a w1 hS hT hB hD K hK
      have d10 : a.tmps.getD 10 undef = .string (T0) := hD ⟨7, .data⟩ (by simp) rfl _ 10 rfl rfl
      have d13 : a.tmps.getD 13 undef = .string (itx x 2) := hD ⟨10, .data⟩ (by simp) rfl _ 13 rfl rfl
      rw [if_pos (by rfl)]
      clear hB hD hT
      go_simp
      exact hK _ _ hS (Below.refl _ _) rfl
    · intro a w1 hS hT hB hD K hK
      have b1 : a.tmps.getD 1 undef = .pointer (some ⟨w.heap.size, 0, none⟩) := hB 1 (by kernel_rfl)
      rw [if_pos (by rfl)]
      clear hB hD hT
      go_simp
      exact hK _ _ hS (Below.refl _ _) rfl
    · intro a w1 hS hT hB hD K hK
      have d15 : a.tmps.getD 15 undef = .pointer (some ⟨w.heap.size, 3, none⟩) := hD ⟨12, .data⟩ (by simp) rfl _ 15 rfl rfl
      rw [if_pos (by rfl)]
      clear hB hD hT
      go_simp
      exact hK _ _ hS (Below.refl _ _) rfl
    · intro a w1 hS hT hB hD K hK
      have d16 : a.tmps.getD 16 undef = .int .i64 (y) := hD ⟨13, .data⟩ (by simp) rfl _ 16 rfl rfl
      rw [if_pos (by rfl)]
      clear hB hD hT
      go_simp
      refine (irtext _ _ _ (by decide) (by decide)).mono ?_
      rintro e w' ⟨rfl, hb⟩
      exact hK _ _ (keepI hb hS) hb rfl
    · intro a w1 hS hT hB hD K hK
      have d14 : a.tmps.getD 14 undef = .string (T0 ++ (itx x 2)) := hD ⟨11, .data⟩ (by simp) rfl _ 14 rfl rfl
      have d17 : a.tmps.getD 17 undef = .string (itx y 2) := hD ⟨14, .data⟩ (by simp) rfl _ 17 rfl rfl
      rw [if_pos (by rfl)]
      clear hB hD hT
      go_simp
      exact hK _ _ hS (Below.refl _ _) rfl
    · intro a w1 hS hT hB hD K hK
      have b1 : a.tmps.getD 1 undef = .pointer (some ⟨w.heap.size, 0, none⟩) := hB 1 (by kernel_rfl)
      rw [if_pos (by rfl)]
      clear hB hD hT
      go_simp
      exact hK _ _ hS (Below.refl _ _) rfl
    · intro a w1 hS hT hB hD K hK
      have d19 : a.tmps.getD 19 undef = .pointer (some ⟨w.heap.size, 4, none⟩) := hD ⟨16, .data⟩ (by simp) rfl _ 19 rfl rfl
      rw [if_pos (by rfl)]
      clear hB hD hT
      go_simp
      exact hK _ _ hS (Below.refl _ _) rfl
    · intro a w1 hS hT hB hD K hK
      have d18 : a.tmps.getD 18 undef = .string (T0 ++ (itx x 2) ++ (itx y 2)) := hD ⟨15, .data⟩ (by simp) rfl _ 18 rfl rfl
      have d20 : a.tmps.getD 20 undef = .string (da) := hD ⟨17, .data⟩ (by simp) rfl _ 20 rfl rfl
      rw [if_pos (by rfl)]
      clear hB hD hT
      go_simp
      exact hK _ _ hS (Below.refl _ _) rfl
    · intro a w1 hS hT hB hD K hK
      have d21 : a.tmps.getD 21 undef = .string (T0 ++ (itx x 2) ++ (itx y 2) ++ da) := hD ⟨18, .data⟩ (by simp) rfl _ 21 rfl rfl
      rw [if_pos (by rfl)]
      clear hB hD hT
      go_simp
      refine (HSE.out _).mono ?_
      rintro e w' ⟨rfl, hb⟩
      exact hK _ _ (keepI hb hS) hb rfl
    · intro a w1 hS hT hB hD K hK
      have d22 : a.tmps.getD 22 undef = .string (sealS (T0 ++ (itx x 2) ++ (itx y 2) ++ da) 2) := hD ⟨19, .data⟩ (by simp) rfl _ 22 rfl rfl
      rw [if_pos (by rfl)]
      clear hB hD hT
      go_simp
      exact hK _ _ hS (Below.refl _ _) rfl
  · intro a w1 hS hT hdf hB hF
    clear HX6
    obtain ⟨⟨l⟩, df⟩ := a
    match l, hT with
    | x0 :: x1 :: x2 :: x3 :: x4 :: x5 :: x6 :: x7 :: x8 :: x9 :: x10 :: x11 :: x12 :: x13 :: x14 :: x15 :: x16 :: x17 :: x18 :: x19 :: x20 :: x21 :: x22 :: [], _ =>
      have s2 : x2 = .string (sealS (T0 ++ (itx x 2) ++ (itx y 2) ++ da) 2) := hF 20 _ 2 rfl rfl
      have sd : df = [] := hdf
      subst s2 sd
      clear hB hF
      go_wp2
      go_ret
      exact ⟨rfl, hS.1⟩

theorem irbytes_y {ty co x y : Int} {da : ByteArray} (h : mayI ty co x y da.size = true) (w : World) :
    Calls Try.prog 27 #[.agg #[.int .i64 ty, .int .i64 co, .int .i64 x, .int .i64 y, .string da]] w fun e w' => e = .returned (.string (encI ty co x y da)) ∧ Below w.heap.size w w' := by
  obtain ⟨-, -, -, -, hz⟩ := mayI_q h
  have := irby_h ty co x y da w hz
  rw [ihead_is] at this
  exact this
theorem irenc_y {ty co x y : Int} {da : ByteArray} (h : mayI ty co x y da.size = true) (w : World) :
    Calls Try.prog 10 #[.agg #[.int .i64 ty, .int .i64 co, .int .i64 x, .int .i64 y, .string da]] w fun e w' => e = .returned (.tuple #[.string (encI ty co x y da), .int .i64 0]) ∧ Below w.heap.size w w' := by
  have hA := At.box w #[.int .i64 ty, .int .i64 co, .int .i64 x, .int .i64 y, .string da] 23
  have hl := bel1 w (.cells #[.int .i64 ty, .int .i64 co, .int .i64 x, .int .i64 y, .string da] 23)
  obtain ⟨-, -, -, -, hz⟩ := mayI_q h
  go_enter Try.func10, Try.ntmps10
  go_wp2_with fail
  refine (richk_t h _ (by omega)).mono ?_
  rintro e w1 ⟨rfl, hb⟩
  have hl := bt hl hb
  obtain ⟨⟨c0, c1, c2, c3, c4⟩, -, -⟩ := (hA.later hb).five
  clear hA hb
  go_wp2_with fail
  refine (irbytes_y h _).mono ?_
  rintro e w2 ⟨rfl, hb⟩
  have hl := bt hl hb
  go_wp2
  go_ret2
  exact ⟨rfl, hl⟩
theorem irenc_n {ty co x y : Int} {da : ByteArray} (h : mayI ty co x y da.size = false) (w : World) (hd : da.size ≤ 1125899906842624) :
    Calls Try.prog 10 #[.agg #[.int .i64 ty, .int .i64 co, .int .i64 x, .int .i64 y, .string da]] w fun e w' => e = .returned (.tuple #[.string ⟨#[]⟩, .int .i64 60]) ∧ Below w.heap.size w w' := by
  have hl := bel1 w (.cells #[.int .i64 ty, .int .i64 co, .int .i64 x, .int .i64 y, .string da] 23)
  go_enter Try.func10, Try.ntmps10
  go_wp2_with fail
  refine (richk_f h _ hd).mono ?_
  rintro e w1 ⟨rfl, hb⟩
  have hl := bt hl hb
  go_wp2
  go_ret2
  exact ⟨rfl, hl⟩
end Go.Proofs.Ytbbeepkcejiafaa
