/- The contracts of the document's Bytes and Encode of IP packets: each returns just the values named here; nothing that was there turns. -/
import Derived.Test.YtbbeepkcejiafaaEnb
import Derived.Test.YtbbeepkcejiafaaChk
import Derived.Test.YtbbeepkcejiafaaFacts
namespace Go.Proofs.Ytbbeepkcejiafaa
open Go.RowKit

theorem keep8 {w W x : World} {a0 a1 a2 a3 a4 a5 a6 a7 : Addr} {v0 v1 v2 v3 v4 v5 v6 v7 : Value} (hb : Below W.heap.size W x) (h : Below w.heap.size w W ∧ W.cell? a0 = some v0 ∧ W.cell? a1 = some v1 ∧ W.cell? a2 = some v2 ∧ W.cell? a3 = some v3 ∧ W.cell? a4 = some v4 ∧ W.cell? a5 = some v5 ∧ W.cell? a6 = some v6 ∧ W.cell? a7 = some v7) :
    Below w.heap.size w x ∧ x.cell? a0 = some v0 ∧ x.cell? a1 = some v1 ∧ x.cell? a2 = some v2 ∧ x.cell? a3 = some v3 ∧ x.cell? a4 = some v4 ∧ x.cell? a5 = some v5 ∧ x.cell? a6 = some v6 ∧ x.cell? a7 = some v7 :=
  ⟨bt h.1 hb, later hb h.2.1, later hb h.2.2.1, later hb h.2.2.2.1, later hb h.2.2.2.2.1, later hb h.2.2.2.2.2.1, later hb h.2.2.2.2.2.2.1, later hb h.2.2.2.2.2.2.2.1, later hb h.2.2.2.2.2.2.2.2⟩
def txI (n k : Int) : ByteArray := txt n k.toNat
theorem txI_size (n k : Int) : (txI n k).size = k.toNat := txt_size _ _
theorem rtextI (n k : Int) (w : World) (k0 : 1 ≤ k) (k1 : k ≤ 6) :
    Calls Try.prog 45 #[.int .i64 n, .int .i64 k] w fun e w' => e = .returned (.string (txI n k)) ∧ Below w.heap.size w w' := by
  obtain ⟨K, rfl⟩ := Int.eq_ofNat_of_zero_le (show 0 ≤ k by omega)
  exact rtext_any n K w (by omega) (by omega)
theorem low_byte (n : Int) : n % 256 = ((byteAt n 0).toNat : Int) := by rw [byteAt_toNat]; simp
theorem u8_wrap (n : Int) : IntKind.u8.wrap n = ((byteAt n 0).toNat : Int) := by rw [IntKind.wrap_u8']; exact low_byte n
def T0V (A : Int) : ByteArray := ⟨[byteAt A 0, 0].toArray⟩
def T1V (tl pr : Int) : ByteArray := ⟨[byteAt tl 0, byteAt pr 0, 0, 0].toArray⟩
theorem T0_is (A : Int) : T0V A = txt A 1 ++ txt 0 1 := by
  apply ba_toList
  rw [app_toList, txt_toList, txt_toList]
  simp [T0V, txtL, byteAt]
theorem T1_is (tl pr : Int) : T1V tl pr = txt tl 1 ++ txt pr 1 ++ txt 0 2 := by
  apply ba_toList
  rw [app_toList, app_toList, txt_toList, txt_toList, txt_toList]
  simp [T1V, txtL, byteAt, List.range_succ]
theorem rhead_is (H FL f t tl pr id : Int) (op da : ByteArray) : T0V (64 + H / 4) ++ txI (H + (da.size : Int)) 2 ++ txI id 2 ++ txI FL 2 ++ T1V tl pr ++ txI f 4 ++ txI t 4 ++ op = txt (64 + H / 4) 1 ++ txt 0 1 ++ txt (H + (da.size : Int)) 2 ++ txt id 2 ++ txt FL 2 ++ txt tl 1 ++ txt pr 1 ++ txt 0 2 ++ txt f 4 ++ txt t 4 ++ op := by
  rw [T0_is, T1_is]
  unfold txI
  simp only [ByteArray.append_assoc]
  rfl

set_option maxRecDepth 100000 in
set_option maxHeartbeats 8000000 in
theorem rby_h (f t tl pr id fr : Int) (mo dn : Bool) (op da : ByteArray) (H FL : Int) (w : World) (hH : H = 20 + (op.size : Int)) (hFL : FL = flagsV fr mo dn) (ho : op.size ≤ 40) (hd0 : (da.size : Int) ≤ 65535) (hf0 : 0 ≤ fr) (hf1 : fr ≤ 8191) :
    Calls Try.prog 34 #[.agg #[.int .i64 f, .int .i64 t, .int .i64 tl, .int .i64 pr, .int .i64 id, .int .i64 fr, .bool mo, .bool dn, .string op, .string da]] w fun e w' => e = .returned (.string (sealS (T0V (64 + H / 4) ++ txI (H + (da.size : Int)) 2 ++ txI id 2 ++ txI FL 2 ++ T1V tl pr ++ txI f 4 ++ txI t 4 ++ op) 10 ++ da)) ∧ Below w.heap.size w w' := by
  have H0 : 0 ≤ H := by omega
  have H1 : H ≤ 60 := by omega
  have hx5 := And.intro (bel1 w (.cells #[.int .i64 f, .int .i64 t, .int .i64 tl, .int .i64 pr, .int .i64 id, .int .i64 fr, .bool mo, .bool dn, .string op, .string da] 35)) (At.box w #[.int .i64 f, .int .i64 t, .int .i64 tl, .int .i64 pr, .int .i64 id, .int .i64 fr, .bool mo, .bool dn, .string op, .string da] 35).ten.1
  have e1 : IntKind.i64.wrap (H.tdiv 4) = H / 4 := by rw [Int.tdiv_eq_ediv_of_nonneg H0, IntKind.wrap_i64]; omega
  have e2 : IntKind.i64.wrap (64 + H / 4) = 64 + H / 4 := by rw [IntKind.wrap_i64]; omega
  have e3 : IntKind.i64.wrap (H + (da.size : Int)) = H + (da.size : Int) := by rw [IntKind.wrap_i64]; omega
  have u1 := u8_wrap (64 + H / 4)
  have u2 := u8_wrap tl
  have u3 := u8_wrap pr
  have u1' := low_byte (64 + H / 4)
  have u2' := low_byte tl
  have u3' := low_byte pr
  obtain ⟨T0, hT0⟩ : ∃ T, T = T0V (64 + H / 4) := ⟨_, rfl⟩
  obtain ⟨T1, hT1⟩ : ∃ T, T = T1V tl pr := ⟨_, rfl⟩
  have zT0 : T0.size = 2 := by rw [hT0]; rfl
  have zT1 : T1.size = 4 := by rw [hT1]; rfl
  have k24 : (2 : Int).toNat = 2 ∧ (4 : Int).toNat = 4 := ⟨rfl, rfl⟩
  have r1 : ∀ W, (Op.stringOp .add T0 (txI (H + (da.size : Int)) 2)).run Try.prog W = .ok (.string (T0 ++ (txI (H + (da.size : Int)) 2))) W := fun W => run_string_add_sum W _ _ (by simp only [txI_size, zT0]; omega)
  have r2 : ∀ W, (Op.stringOp .add (T0 ++ (txI (H + (da.size : Int)) 2)) (txI id 2)).run Try.prog W = .ok (.string (T0 ++ (txI (H + (da.size : Int)) 2) ++ (txI id 2))) W := fun W => run_string_add_sum W _ _ (by simp only [ByteArray.size_append, txI_size, zT0]; omega)
  have r3 : ∀ W, (Op.stringOp .add (T0 ++ (txI (H + (da.size : Int)) 2) ++ (txI id 2)) (txI FL 2)).run Try.prog W = .ok (.string (T0 ++ (txI (H + (da.size : Int)) 2) ++ (txI id 2) ++ (txI FL 2))) W := fun W => run_string_add_sum W _ _ (by simp only [ByteArray.size_append, txI_size, zT0]; omega)
  have r4 : ∀ W, (Op.stringOp .add (T0 ++ (txI (H + (da.size : Int)) 2) ++ (txI id 2) ++ (txI FL 2)) T1).run Try.prog W = .ok (.string (T0 ++ (txI (H + (da.size : Int)) 2) ++ (txI id 2) ++ (txI FL 2) ++ T1)) W := fun W => run_string_add_sum W _ _ (by simp only [ByteArray.size_append, txI_size, zT0, zT1]; omega)
  have r5 : ∀ W, (Op.stringOp .add (T0 ++ (txI (H + (da.size : Int)) 2) ++ (txI id 2) ++ (txI FL 2) ++ T1) (txI f 4)).run Try.prog W = .ok (.string (T0 ++ (txI (H + (da.size : Int)) 2) ++ (txI id 2) ++ (txI FL 2) ++ T1 ++ (txI f 4))) W := fun W => run_string_add_sum W _ _ (by simp only [ByteArray.size_append, txI_size, zT0, zT1]; omega)
  have r6 : ∀ W, (Op.stringOp .add (T0 ++ (txI (H + (da.size : Int)) 2) ++ (txI id 2) ++ (txI FL 2) ++ T1 ++ (txI f 4)) (txI t 4)).run Try.prog W = .ok (.string (T0 ++ (txI (H + (da.size : Int)) 2) ++ (txI id 2) ++ (txI FL 2) ++ T1 ++ (txI f 4) ++ (txI t 4))) W := fun W => run_string_add_sum W _ _ (by simp only [ByteArray.size_append, txI_size, zT0, zT1]; omega)
  have r7 : ∀ W, (Op.stringOp .add (T0 ++ (txI (H + (da.size : Int)) 2) ++ (txI id 2) ++ (txI FL 2) ++ T1 ++ (txI f 4) ++ (txI t 4)) op).run Try.prog W = .ok (.string (T0 ++ (txI (H + (da.size : Int)) 2) ++ (txI id 2) ++ (txI FL 2) ++ T1 ++ (txI f 4) ++ (txI t 4) ++ op)) W := fun W => run_string_add_sum W _ _ (by simp only [ByteArray.size_append, txI_size, zT0, zT1]; omega)
  have hsz : (T0 ++ (txI (H + (da.size : Int)) 2) ++ (txI id 2) ++ (txI FL 2) ++ T1 ++ (txI f 4) ++ (txI t 4) ++ op).size = 20 + op.size := by simp only [ByteArray.size_append, txI_size, zT0, zT1]; omega
  have hse := fun W => sealed_ok (T0 ++ (txI (H + (da.size : Int)) 2) ++ (txI id 2) ++ (txI FL 2) ++ T1 ++ (txI f 4) ++ (txI t 4) ++ op) 10 W (by omega) (by decide) (by omega) (by decide)
  have hses : (sealS (T0 ++ (txI (H + (da.size : Int)) 2) ++ (txI id 2) ++ (txI FL 2) ++ T1 ++ (txI f 4) ++ (txI t 4) ++ op) 10).size = 20 + op.size := by rw [sealS_size _ _ (by decide) (by omega), hsz]
  have r9 : ∀ W, (Op.stringOp .add (sealS (T0 ++ (txI (H + (da.size : Int)) 2) ++ (txI id 2) ++ (txI FL 2) ++ T1 ++ (txI f 4) ++ (txI t 4) ++ op) 10) da).run Try.prog W = .ok (.string (sealS (T0 ++ (txI (H + (da.size : Int)) 2) ++ (txI id 2) ++ (txI FL 2) ++ T1 ++ (txI f 4) ++ (txI t 4) ++ op) 10 ++ da)) W := fun W => run_string_add_sum W _ _ (by omega)
  rw [← hT0, ← hT1]
  have HT0 : Hid (T0 = T0V (64 + H / 4)) := hT0
  have HT1 : Hid (T1 = T1V tl pr) := hT1
  have HSE : Hid (∀ W, Calls Try.prog 44 #[.string (T0 ++ (txI (H + (da.size : Int)) 2) ++ (txI id 2) ++ (txI FL 2) ++ T1 ++ (txI f 4) ++ (txI t 4) ++ op), .int .i64 10] W fun e w' => e = .returned (.string (sealS (T0 ++ (txI (H + (da.size : Int)) 2) ++ (txI id 2) ++ (txI FL 2) ++ T1 ++ (txI f 4) ++ (txI t 4) ++ op) 10)) ∧ Below W.heap.size W w') := hse
  have HH : Hid (H = 20 + (op.size : Int)) := hH
  have hHs : 20 + (op.size : Int) = H := hH.symm
  have FF : Hid (FL = flagsV fr mo dn) := hFL
  clear hse hsz hses zT0 zT1 k24 hH hFL hT0 hT1
  have hx6 : Below w.heap.size w (w.alloc (.cells #[.int .i64 f, .int .i64 t, .int .i64 tl, .int .i64 pr, .int .i64 id, .int .i64 fr, .bool mo, .bool dn, .string op, .string da] 35)).drew ∧ (w.alloc (.cells #[.int .i64 f, .int .i64 t, .int .i64 tl, .int .i64 pr, .int .i64 id, .int .i64 fr, .bool mo, .bool dn, .string op, .string da] 35)).drew.cell? ⟨w.heap.size, 0, none⟩ = some (.int .i64 f) ∧ (w.alloc (.cells #[.int .i64 f, .int .i64 t, .int .i64 tl, .int .i64 pr, .int .i64 id, .int .i64 fr, .bool mo, .bool dn, .string op, .string da] 35)).drew.cell? ⟨w.heap.size, 1, none⟩ = some (.int .i64 t) ∧ (w.alloc (.cells #[.int .i64 f, .int .i64 t, .int .i64 tl, .int .i64 pr, .int .i64 id, .int .i64 fr, .bool mo, .bool dn, .string op, .string da] 35)).drew.cell? ⟨w.heap.size, 2, none⟩ = some (.int .i64 tl) ∧ (w.alloc (.cells #[.int .i64 f, .int .i64 t, .int .i64 tl, .int .i64 pr, .int .i64 id, .int .i64 fr, .bool mo, .bool dn, .string op, .string da] 35)).drew.cell? ⟨w.heap.size, 3, none⟩ = some (.int .i64 pr) ∧ (w.alloc (.cells #[.int .i64 f, .int .i64 t, .int .i64 tl, .int .i64 pr, .int .i64 id, .int .i64 fr, .bool mo, .bool dn, .string op, .string da] 35)).drew.cell? ⟨w.heap.size, 4, none⟩ = some (.int .i64 id) ∧ (w.alloc (.cells #[.int .i64 f, .int .i64 t, .int .i64 tl, .int .i64 pr, .int .i64 id, .int .i64 fr, .bool mo, .bool dn, .string op, .string da] 35)).drew.cell? ⟨w.heap.size, 5, none⟩ = some (.int .i64 fr) ∧ (w.alloc (.cells #[.int .i64 f, .int .i64 t, .int .i64 tl, .int .i64 pr, .int .i64 id, .int .i64 fr, .bool mo, .bool dn, .string op, .string da] 35)).drew.cell? ⟨w.heap.size, 8, none⟩ = some (.string op) ∧ (w.alloc (.cells #[.int .i64 f, .int .i64 t, .int .i64 tl, .int .i64 pr, .int .i64 id, .int .i64 fr, .bool mo, .bool dn, .string op, .string da] 35)).drew.cell? ⟨w.heap.size, 9, none⟩ = some (.string da) := ⟨hx5.1.drew, hx5.2.1, hx5.2.2.1, hx5.2.2.2.1, hx5.2.2.2.2.1, hx5.2.2.2.2.2.1, hx5.2.2.2.2.2.2.1, hx5.2.2.2.2.2.2.2.2.2.1, hx5.2.2.2.2.2.2.2.2.2.2⟩
  clear hx5
  have HX6 : Hid (Below w.heap.size w (w.alloc (.cells #[.int .i64 f, .int .i64 t, .int .i64 tl, .int .i64 pr, .int .i64 id, .int .i64 fr, .bool mo, .bool dn, .string op, .string da] 35)).drew ∧ (w.alloc (.cells #[.int .i64 f, .int .i64 t, .int .i64 tl, .int .i64 pr, .int .i64 id, .int .i64 fr, .bool mo, .bool dn, .string op, .string da] 35)).drew.cell? ⟨w.heap.size, 0, none⟩ = some (.int .i64 f) ∧ (w.alloc (.cells #[.int .i64 f, .int .i64 t, .int .i64 tl, .int .i64 pr, .int .i64 id, .int .i64 fr, .bool mo, .bool dn, .string op, .string da] 35)).drew.cell? ⟨w.heap.size, 1, none⟩ = some (.int .i64 t) ∧ (w.alloc (.cells #[.int .i64 f, .int .i64 t, .int .i64 tl, .int .i64 pr, .int .i64 id, .int .i64 fr, .bool mo, .bool dn, .string op, .string da] 35)).drew.cell? ⟨w.heap.size, 2, none⟩ = some (.int .i64 tl) ∧ (w.alloc (.cells #[.int .i64 f, .int .i64 t, .int .i64 tl, .int .i64 pr, .int .i64 id, .int .i64 fr, .bool mo, .bool dn, .string op, .string da] 35)).drew.cell? ⟨w.heap.size, 3, none⟩ = some (.int .i64 pr) ∧ (w.alloc (.cells #[.int .i64 f, .int .i64 t, .int .i64 tl, .int .i64 pr, .int .i64 id, .int .i64 fr, .bool mo, .bool dn, .string op, .string da] 35)).drew.cell? ⟨w.heap.size, 4, none⟩ = some (.int .i64 id) ∧ (w.alloc (.cells #[.int .i64 f, .int .i64 t, .int .i64 tl, .int .i64 pr, .int .i64 id, .int .i64 fr, .bool mo, .bool dn, .string op, .string da] 35)).drew.cell? ⟨w.heap.size, 5, none⟩ = some (.int .i64 fr) ∧ (w.alloc (.cells #[.int .i64 f, .int .i64 t, .int .i64 tl, .int .i64 pr, .int .i64 id, .int .i64 fr, .bool mo, .bool dn, .string op, .string da] 35)).drew.cell? ⟨w.heap.size, 8, none⟩ = some (.string op) ∧ (w.alloc (.cells #[.int .i64 f, .int .i64 t, .int .i64 tl, .int .i64 pr, .int .i64 id, .int .i64 fr, .bool mo, .bool dn, .string op, .string da] 35)).drew.cell? ⟨w.heap.size, 9, none⟩ = some (.string da)) := hx6
  clear hx6
  cases mo
  all_goals
    cases dn
    all_goals
      first
        | have FLH : Hid (fr = FL) := by (show fr = FL; rw [FF.out]; simp [flagsV])
        | have FLH : Hid (fr + 16384 = FL) := by (show fr + 16384 = FL; rw [FF.out]; simp [flagsV])
        | have FLH : Hid (fr + 8192 = FL) := by (show fr + 8192 = FL; rw [FF.out]; simp [flagsV])
        | have FLH : Hid (fr + 16384 + 8192 = FL) := by (show fr + 16384 + 8192 = FL; rw [FF.out]; simp [flagsV])
      go_enter Try.func34, Try.ntmps34
      go_wp2
      refine wp_region_any (by kernel_rfl) ?_
      refine region_facts (fun W => Below w.heap.size w W ∧ W.cell? ⟨w.heap.size, 0, none⟩ = some (.int .i64 f) ∧ W.cell? ⟨w.heap.size, 1, none⟩ = some (.int .i64 t) ∧ W.cell? ⟨w.heap.size, 2, none⟩ = some (.int .i64 tl) ∧ W.cell? ⟨w.heap.size, 3, none⟩ = some (.int .i64 pr) ∧ W.cell? ⟨w.heap.size, 4, none⟩ = some (.int .i64 id) ∧ W.cell? ⟨w.heap.size, 5, none⟩ = some (.int .i64 fr) ∧ W.cell? ⟨w.heap.size, 8, none⟩ = some (.string op) ∧ W.cell? ⟨w.heap.size, 9, none⟩ = some (.string da)) (GV (fun i => match i with | 0 => .int .i64 (H) | 1 => .int .i64 (H / 4) | 2 => .int .i64 (64 + H / 4) | 3 => .int .u8 ((byteAt (64 + H / 4) 0).toNat : Int) | 5 => .string (T0) | 6 => .int .i64 (H) | 7 => .pointer (some ⟨w.heap.size, 9, none⟩) | 8 => .string (da) | 9 => .int .i64 ((da.size : Int)) | 10 => .int .i64 (H + (da.size : Int)) | 11 => .string (txI (H + (da.size : Int)) 2) | 12 => .string (T0 ++ (txI (H + (da.size : Int)) 2)) | 13 => .pointer (some ⟨w.heap.size, 4, none⟩) | 14 => .int .i64 (id) | 15 => .string (txI id 2) | 16 => .string (T0 ++ (txI (H + (da.size : Int)) 2) ++ (txI id 2)) | 17 => .int .i64 (FL) | 18 => .string (txI FL 2) | 19 => .string (T0 ++ (txI (H + (da.size : Int)) 2) ++ (txI id 2) ++ (txI FL 2)) | 20 => .pointer (some ⟨w.heap.size, 2, none⟩) | 21 => .int .i64 (tl) | 22 => .int .u8 ((byteAt tl 0).toNat : Int) | 23 => .pointer (some ⟨w.heap.size, 3, none⟩) | 24 => .int .i64 (pr) | 25 => .int .u8 ((byteAt pr 0).toNat : Int) | 27 => .string (T1) | 28 => .string (T0 ++ (txI (H + (da.size : Int)) 2) ++ (txI id 2) ++ (txI FL 2) ++ T1) | 29 => .pointer (some ⟨w.heap.size, 0, none⟩) | 30 => .int .i64 (f) | 31 => .string (txI f 4) | 32 => .string (T0 ++ (txI (H + (da.size : Int)) 2) ++ (txI id 2) ++ (txI FL 2) ++ T1 ++ (txI f 4)) | 33 => .pointer (some ⟨w.heap.size, 1, none⟩) | 34 => .int .i64 (t) | 35 => .string (txI t 4) | 36 => .string (T0 ++ (txI (H + (da.size : Int)) 2) ++ (txI id 2) ++ (txI FL 2) ++ T1 ++ (txI f 4) ++ (txI t 4)) | 37 => .pointer (some ⟨w.heap.size, 8, none⟩) | 38 => .string (op) | 39 => .string (T0 ++ (txI (H + (da.size : Int)) 2) ++ (txI id 2) ++ (txI FL 2) ++ T1 ++ (txI f 4) ++ (txI t 4) ++ op) | 40 => .string (T0 ++ (txI (H + (da.size : Int)) 2) ++ (txI id 2) ++ (txI FL 2) ++ T1 ++ (txI f 4) ++ (txI t 4) ++ op) | _ => undef) (fun i => match i with | 4 => some [.int .u8 ((byteAt (64 + H / 4) 0).toNat : Int), .int .u8 0] | 26 => some [.int .u8 ((byteAt tl 0).toNat : Int), .int .u8 ((byteAt pr 0).toNat : Int), .int .u8 0, .int .u8 0] | _ => none)) (n := 65) (by kernel_rfl) rfl (by kernel_rfl) (GV_later _ _) ?_ ?_ HX6.out (Nat.le_refl _)
      · clear HX6
        refine ⟨?_, ?_, ?_, ?_, ?_, ?_, ?_, ?_, ?_, ?_, ?_, ?_, ?_, ?_, ?_, ?_, ?_, ?_, ?_, ?_, ?_, ?_, ?_, ?_, ?_, ?_, ?_, ?_, ?_, ?_, ?_, ?_, ?_, ?_, ?_, ?_, ?_, ?_, ?_, ?_, ?_, trivial⟩
        · intro a w1 hS hT hB hD K hK
          have b4 : a.tmps.getD 4 undef = .int .i64 (H) := hB 4 (by kernel_rfl)
          rw [if_pos (by rfl)]
          clear hB hD hT
          go_simp
          exact hK _ _ hS (Below.refl _ _) rfl
        · intro a w1 hS hT hB hD K hK
          have d20 : a.tmps.getD 20 undef = .int .i64 (H) := hD ⟨0, .data⟩ (by simp) rfl _ 20 rfl rfl
          rw [if_pos (by rfl)]
          clear hB hD hT
          go_simp
          exact hK _ _ hS (Below.refl _ _) rfl
        · intro a w1 hS hT hB hD K hK
          have d21 : a.tmps.getD 21 undef = .int .i64 (H / 4) := hD ⟨1, .data⟩ (by simp) rfl _ 21 rfl rfl
          rw [if_pos (by rfl)]
          clear hB hD hT
          go_simp
          exact hK _ _ hS (Below.refl _ _) rfl
        · intro a w1 hS hT hB hD K hK
          have d22 : a.tmps.getD 22 undef = .int .i64 (64 + H / 4) := hD ⟨2, .data⟩ (by simp) rfl _ 22 rfl rfl
          rw [if_pos (by rfl)]
          clear hB hD hT
          go_simp
          exact hK _ _ hS (Below.refl _ _) rfl
        · intro a w1 hS hT hB hD K hK
          have d23 : a.tmps.getD 23 undef = .int .u8 ((byteAt (64 + H / 4) 0).toNat : Int) := hD ⟨3, .data⟩ (by simp) rfl _ 23 rfl rfl
          clear hB hD
          obtain ⟨⟨l⟩, df⟩ := a
          match l, hT with
          | x0 :: x1 :: x2 :: x3 :: x4 :: x5 :: x6 :: x7 :: x8 :: x9 :: x10 :: x11 :: x12 :: x13 :: x14 :: x15 :: x16 :: x17 :: x18 :: x19 :: x20 :: x21 :: x22 :: x23 :: x24 :: x25 :: x26 :: x27 :: x28 :: x29 :: x30 :: x31 :: x32 :: x33 :: x34 :: x35 :: x36 :: x37 :: x38 :: x39 :: x40 :: x41 :: x42 :: x43 :: x44 :: x45 :: x46 :: x47 :: x48 :: x49 :: x50 :: x51 :: x52 :: x53 :: x54 :: x55 :: x56 :: x57 :: x58 :: x59 :: x60 :: x61 :: x62 :: x63 :: x64 :: [], _ =>
            have q23 : x23 = .int .u8 ((byteAt (64 + H / 4) 0).toNat : Int) := d23
            clear d23
            subst q23
            rw [if_pos (by rfl)]
            go_simp
            exact hK _ _ (keep8 (bel1 _ _) hS) (bel1 _ _) ⟨_, rfl, by simp, fun k c hk => ((At.box w1 (List.toArray [.int .u8 ((byteAt (64 + H / 4) 0).toNat : Int), .int .u8 0]) 5).2 k c (by simpa using hk)).1⟩
        · intro a w1 hS hT hB hD K hK
          obtain ⟨g, d24, hlt, hc⟩ := hD ⟨4, .data⟩ (by simp) rfl _ 24 rfl rfl
          rw [if_pos (by rfl)]
          clear hB hD hT
          have hcv := run_convert_bytes_back (P := Try.prog) w1 39 9 5 ⟨g, 0, none⟩ 2 [byteAt (64 + H / 4) 0, 0] Try.underlying39 Try.underlying5 Try.underlying9 (by
            intro k hk; rw [Addr.add_lit, Nat.zero_add]
            have : k < 2 := hk
            obtain rfl | rfl : k = 0 ∨ k = 1 := by omega
            · exact hc 0 _ rfl
            · exact hc 1 _ rfl)
          clear hc
          have d' : a.tmps.getD 24 undef = .slice (some ⟨g, 0, none⟩) 2 2 := d24
          have hcw : (convert 39 9 (.slice (some ⟨g, 0, none⟩) 2 2)).run Try.prog w1 = .ok (.string T0) w1 := by rw [HT0.out]; exact hcv
          clear d24 hcv
          go_simp
          exact hK _ _ hS (Below.refl _ _) rfl
        · intro a w1 hS hT hB hD K hK
          have b4 : a.tmps.getD 4 undef = .int .i64 (H) := hB 4 (by kernel_rfl)
          rw [if_pos (by rfl)]
          clear hB hD hT
          go_simp
          exact hK _ _ hS (Below.refl _ _) rfl
        · intro a w1 hS hT hB hD K hK
          have b1 : a.tmps.getD 1 undef = .pointer (some ⟨w.heap.size, 0, none⟩) := hB 1 (by kernel_rfl)
          rw [if_pos (by rfl)]
          clear hB hD hT
          go_simp
          exact hK _ _ hS (Below.refl _ _) rfl
        · intro a w1 hS hT hB hD K hK
          have d27 : a.tmps.getD 27 undef = .pointer (some ⟨w.heap.size, 9, none⟩) := hD ⟨7, .data⟩ (by simp) rfl _ 27 rfl rfl
          rw [if_pos (by rfl)]
          clear hB hD hT
          go_simp
          exact hK _ _ hS (Below.refl _ _) rfl
        · intro a w1 hS hT hB hD K hK
          have d28 : a.tmps.getD 28 undef = .string (da) := hD ⟨8, .data⟩ (by simp) rfl _ 28 rfl rfl
          rw [if_pos (by rfl)]
          clear hB hD hT
          go_simp
          exact hK _ _ hS (Below.refl _ _) rfl
        · intro a w1 hS hT hB hD K hK
          have d26 : a.tmps.getD 26 undef = .int .i64 (H) := hD ⟨6, .data⟩ (by simp) rfl _ 26 rfl rfl
          have d29 : a.tmps.getD 29 undef = .int .i64 ((da.size : Int)) := hD ⟨9, .data⟩ (by simp) rfl _ 29 rfl rfl
          rw [if_pos (by rfl)]
          clear hB hD hT
          go_simp
          exact hK _ _ hS (Below.refl _ _) rfl
        · intro a w1 hS hT hB hD K hK
          have d30 : a.tmps.getD 30 undef = .int .i64 (H + (da.size : Int)) := hD ⟨10, .data⟩ (by simp) rfl _ 30 rfl rfl
          rw [if_pos (by rfl)]
          clear hB hD hT
          go_simp
          refine (rtextI _ _ _ (by decide) (by decide)).mono ?_
          rintro e w' ⟨rfl, hb⟩
          exact hK _ _ (keep8 hb hS) hb rfl
        · intro a w1 hS hT hB hD K hK
          have d25 : a.tmps.getD 25 undef = .string (T0) := hD ⟨5, .data⟩ (by simp) rfl _ 25 rfl rfl
          have d31 : a.tmps.getD 31 undef = .string (txI (H + (da.size : Int)) 2) := hD ⟨11, .data⟩ (by simp) rfl _ 31 rfl rfl
          rw [if_pos (by rfl)]
          clear hB hD hT
          go_simp
          exact hK _ _ hS (Below.refl _ _) rfl
        · intro a w1 hS hT hB hD K hK
          have b1 : a.tmps.getD 1 undef = .pointer (some ⟨w.heap.size, 0, none⟩) := hB 1 (by kernel_rfl)
          rw [if_pos (by rfl)]
          clear hB hD hT
          go_simp
          exact hK _ _ hS (Below.refl _ _) rfl
        · intro a w1 hS hT hB hD K hK
          have d33 : a.tmps.getD 33 undef = .pointer (some ⟨w.heap.size, 4, none⟩) := hD ⟨13, .data⟩ (by simp) rfl _ 33 rfl rfl
          rw [if_pos (by rfl)]
          clear hB hD hT
          go_simp
          exact hK _ _ hS (Below.refl _ _) rfl
        · intro a w1 hS hT hB hD K hK
          have d34 : a.tmps.getD 34 undef = .int .i64 (id) := hD ⟨14, .data⟩ (by simp) rfl _ 34 rfl rfl
          rw [if_pos (by rfl)]
          clear hB hD hT
          go_simp
          refine (rtextI _ _ _ (by decide) (by decide)).mono ?_
          rintro e w' ⟨rfl, hb⟩
          exact hK _ _ (keep8 hb hS) hb rfl
        · intro a w1 hS hT hB hD K hK
          have d32 : a.tmps.getD 32 undef = .string (T0 ++ (txI (H + (da.size : Int)) 2)) := hD ⟨12, .data⟩ (by simp) rfl _ 32 rfl rfl
          have d35 : a.tmps.getD 35 undef = .string (txI id 2) := hD ⟨15, .data⟩ (by simp) rfl _ 35 rfl rfl
          rw [if_pos (by rfl)]
          clear hB hD hT
          go_simp
          exact hK _ _ hS (Below.refl _ _) rfl
        · intro a w1 hS hT hB hD K hK
          have b3 : a.tmps.getD 3 undef = .int .i64 (FL) := (hB 3 (by kernel_rfl)).trans (congrArg (Value.int .i64) FLH.out)
          rw [if_pos (by rfl)]
          clear hB hD hT
          go_simp
          exact hK _ _ hS (Below.refl _ _) rfl
        · intro a w1 hS hT hB hD K hK
          have d37 : a.tmps.getD 37 undef = .int .i64 (FL) := hD ⟨17, .data⟩ (by simp) rfl _ 37 rfl rfl
          rw [if_pos (by rfl)]
          clear hB hD hT
          go_simp
          refine (rtextI _ _ _ (by decide) (by decide)).mono ?_
          rintro e w' ⟨rfl, hb⟩
          exact hK _ _ (keep8 hb hS) hb rfl
        · intro a w1 hS hT hB hD K hK
          have d36 : a.tmps.getD 36 undef = .string (T0 ++ (txI (H + (da.size : Int)) 2) ++ (txI id 2)) := hD ⟨16, .data⟩ (by simp) rfl _ 36 rfl rfl
          have d38 : a.tmps.getD 38 undef = .string (txI FL 2) := hD ⟨18, .data⟩ (by simp) rfl _ 38 rfl rfl
          rw [if_pos (by rfl)]
          clear hB hD hT
          go_simp
          exact hK _ _ hS (Below.refl _ _) rfl
        · intro a w1 hS hT hB hD K hK
          have b1 : a.tmps.getD 1 undef = .pointer (some ⟨w.heap.size, 0, none⟩) := hB 1 (by kernel_rfl)
          rw [if_pos (by rfl)]
          clear hB hD hT
          go_simp
          exact hK _ _ hS (Below.refl _ _) rfl
        · intro a w1 hS hT hB hD K hK
          have d40 : a.tmps.getD 40 undef = .pointer (some ⟨w.heap.size, 2, none⟩) := hD ⟨20, .data⟩ (by simp) rfl _ 40 rfl rfl
          rw [if_pos (by rfl)]
          clear hB hD hT
          go_simp
          exact hK _ _ hS (Below.refl _ _) rfl
        · intro a w1 hS hT hB hD K hK
          have d41 : a.tmps.getD 41 undef = .int .i64 (tl) := hD ⟨21, .data⟩ (by simp) rfl _ 41 rfl rfl
          rw [if_pos (by rfl)]
          clear hB hD hT
          go_simp
          exact hK _ _ hS (Below.refl _ _) rfl
        · intro a w1 hS hT hB hD K hK
          have b1 : a.tmps.getD 1 undef = .pointer (some ⟨w.heap.size, 0, none⟩) := hB 1 (by kernel_rfl)
          rw [if_pos (by rfl)]
          clear hB hD hT
          go_simp
          exact hK _ _ hS (Below.refl _ _) rfl
        · intro a w1 hS hT hB hD K hK
          have d43 : a.tmps.getD 43 undef = .pointer (some ⟨w.heap.size, 3, none⟩) := hD ⟨23, .data⟩ (by simp) rfl _ 43 rfl rfl
          rw [if_pos (by rfl)]
          clear hB hD hT
          go_simp
          exact hK _ _ hS (Below.refl _ _) rfl
        · intro a w1 hS hT hB hD K hK
          have d44 : a.tmps.getD 44 undef = .int .i64 (pr) := hD ⟨24, .data⟩ (by simp) rfl _ 44 rfl rfl
          rw [if_pos (by rfl)]
          clear hB hD hT
          go_simp
          exact hK _ _ hS (Below.refl _ _) rfl
        · intro a w1 hS hT hB hD K hK
          have d42 : a.tmps.getD 42 undef = .int .u8 ((byteAt tl 0).toNat : Int) := hD ⟨22, .data⟩ (by simp) rfl _ 42 rfl rfl
          have d45 : a.tmps.getD 45 undef = .int .u8 ((byteAt pr 0).toNat : Int) := hD ⟨25, .data⟩ (by simp) rfl _ 45 rfl rfl
          clear hB hD
          obtain ⟨⟨l⟩, df⟩ := a
          match l, hT with
          | x0 :: x1 :: x2 :: x3 :: x4 :: x5 :: x6 :: x7 :: x8 :: x9 :: x10 :: x11 :: x12 :: x13 :: x14 :: x15 :: x16 :: x17 :: x18 :: x19 :: x20 :: x21 :: x22 :: x23 :: x24 :: x25 :: x26 :: x27 :: x28 :: x29 :: x30 :: x31 :: x32 :: x33 :: x34 :: x35 :: x36 :: x37 :: x38 :: x39 :: x40 :: x41 :: x42 :: x43 :: x44 :: x45 :: x46 :: x47 :: x48 :: x49 :: x50 :: x51 :: x52 :: x53 :: x54 :: x55 :: x56 :: x57 :: x58 :: x59 :: x60 :: x61 :: x62 :: x63 :: x64 :: [], _ =>
            have q42 : x42 = .int .u8 ((byteAt tl 0).toNat : Int) := d42
            have q45 : x45 = .int .u8 ((byteAt pr 0).toNat : Int) := d45
            clear d42 d45
            subst q42 q45
            rw [if_pos (by rfl)]
            go_simp
            exact hK _ _ (keep8 (bel1 _ _) hS) (bel1 _ _) ⟨_, rfl, by simp, fun k c hk => ((At.box w1 (List.toArray [.int .u8 ((byteAt tl 0).toNat : Int), .int .u8 ((byteAt pr 0).toNat : Int), .int .u8 0, .int .u8 0]) 5).2 k c (by simpa using hk)).1⟩
        · intro a w1 hS hT hB hD K hK
          obtain ⟨g, d46, hlt, hc⟩ := hD ⟨26, .data⟩ (by simp) rfl _ 46 rfl rfl
          rw [if_pos (by rfl)]
          clear hB hD hT
          have hcv := run_convert_bytes_back (P := Try.prog) w1 39 9 5 ⟨g, 0, none⟩ 4 [byteAt tl 0, byteAt pr 0, 0, 0] Try.underlying39 Try.underlying5 Try.underlying9 (by
            intro k hk; rw [Addr.add_lit, Nat.zero_add]
            have : k < 4 := hk
            obtain rfl | rfl | rfl | rfl : k = 0 ∨ k = 1 ∨ k = 2 ∨ k = 3 := by omega
            · exact hc 0 _ rfl
            · exact hc 1 _ rfl
            · exact hc 2 _ rfl
            · exact hc 3 _ rfl)
          clear hc
          have d' : a.tmps.getD 46 undef = .slice (some ⟨g, 0, none⟩) 4 4 := d46
          have hcw : (convert 39 9 (.slice (some ⟨g, 0, none⟩) 4 4)).run Try.prog w1 = .ok (.string T1) w1 := by rw [HT1.out]; exact hcv
          clear d46 hcv
          go_simp
          exact hK _ _ hS (Below.refl _ _) rfl
        · intro a w1 hS hT hB hD K hK
          have d39 : a.tmps.getD 39 undef = .string (T0 ++ (txI (H + (da.size : Int)) 2) ++ (txI id 2) ++ (txI FL 2)) := hD ⟨19, .data⟩ (by simp) rfl _ 39 rfl rfl
          have d47 : a.tmps.getD 47 undef = .string (T1) := hD ⟨27, .data⟩ (by simp) rfl _ 47 rfl rfl
          rw [if_pos (by rfl)]
          clear hB hD hT
          go_simp
          exact hK _ _ hS (Below.refl _ _) rfl
        · intro a w1 hS hT hB hD K hK
          have b1 : a.tmps.getD 1 undef = .pointer (some ⟨w.heap.size, 0, none⟩) := hB 1 (by kernel_rfl)
          rw [if_pos (by rfl)]
          clear hB hD hT
          go_simp
          exact hK _ _ hS (Below.refl _ _) rfl
        · intro a w1 hS hT hB hD K hK
          have d49 : a.tmps.getD 49 undef = .pointer (some ⟨w.heap.size, 0, none⟩) := hD ⟨29, .data⟩ (by simp) rfl _ 49 rfl rfl
          rw [if_pos (by rfl)]
          clear hB hD hT
          go_simp
          exact hK _ _ hS (Below.refl _ _) rfl
        · intro a w1 hS hT hB hD K hK
          have d50 : a.tmps.getD 50 undef = .int .i64 (f) := hD ⟨30, .data⟩ (by simp) rfl _ 50 rfl rfl
          rw [if_pos (by rfl)]
          clear hB hD hT
          go_simp
          refine (rtextI _ _ _ (by decide) (by decide)).mono ?_
          rintro e w' ⟨rfl, hb⟩
          exact hK _ _ (keep8 hb hS) hb rfl
        · intro a w1 hS hT hB hD K hK
          have d48 : a.tmps.getD 48 undef = .string (T0 ++ (txI (H + (da.size : Int)) 2) ++ (txI id 2) ++ (txI FL 2) ++ T1) := hD ⟨28, .data⟩ (by simp) rfl _ 48 rfl rfl
          have d51 : a.tmps.getD 51 undef = .string (txI f 4) := hD ⟨31, .data⟩ (by simp) rfl _ 51 rfl rfl
          rw [if_pos (by rfl)]
          clear hB hD hT
          go_simp
          exact hK _ _ hS (Below.refl _ _) rfl
        · intro a w1 hS hT hB hD K hK
          have b1 : a.tmps.getD 1 undef = .pointer (some ⟨w.heap.size, 0, none⟩) := hB 1 (by kernel_rfl)
          rw [if_pos (by rfl)]
          clear hB hD hT
          go_simp
          exact hK _ _ hS (Below.refl _ _) rfl
        · intro a w1 hS hT hB hD K hK
          have d53 : a.tmps.getD 53 undef = .pointer (some ⟨w.heap.size, 1, none⟩) := hD ⟨33, .data⟩ (by simp) rfl _ 53 rfl rfl
          rw [if_pos (by rfl)]
          clear hB hD hT
          go_simp
          exact hK _ _ hS (Below.refl _ _) rfl
        · intro a w1 hS hT hB hD K hK
          have d54 : a.tmps.getD 54 undef = .int .i64 (t) := hD ⟨34, .data⟩ (by simp) rfl _ 54 rfl rfl
          rw [if_pos (by rfl)]
          clear hB hD hT
          go_simp
          refine (rtextI _ _ _ (by decide) (by decide)).mono ?_
          rintro e w' ⟨rfl, hb⟩
          exact hK _ _ (keep8 hb hS) hb rfl
        · intro a w1 hS hT hB hD K hK
          have d52 : a.tmps.getD 52 undef = .string (T0 ++ (txI (H + (da.size : Int)) 2) ++ (txI id 2) ++ (txI FL 2) ++ T1 ++ (txI f 4)) := hD ⟨32, .data⟩ (by simp) rfl _ 52 rfl rfl
          have d55 : a.tmps.getD 55 undef = .string (txI t 4) := hD ⟨35, .data⟩ (by simp) rfl _ 55 rfl rfl
          rw [if_pos (by rfl)]
          clear hB hD hT
          go_simp
          exact hK _ _ hS (Below.refl _ _) rfl
        · intro a w1 hS hT hB hD K hK
          have b1 : a.tmps.getD 1 undef = .pointer (some ⟨w.heap.size, 0, none⟩) := hB 1 (by kernel_rfl)
          rw [if_pos (by rfl)]
          clear hB hD hT
          go_simp
          exact hK _ _ hS (Below.refl _ _) rfl
        · intro a w1 hS hT hB hD K hK
          have d57 : a.tmps.getD 57 undef = .pointer (some ⟨w.heap.size, 8, none⟩) := hD ⟨37, .data⟩ (by simp) rfl _ 57 rfl rfl
          rw [if_pos (by rfl)]
          clear hB hD hT
          go_simp
          exact hK _ _ hS (Below.refl _ _) rfl
        · intro a w1 hS hT hB hD K hK
          have d56 : a.tmps.getD 56 undef = .string (T0 ++ (txI (H + (da.size : Int)) 2) ++ (txI id 2) ++ (txI FL 2) ++ T1 ++ (txI f 4) ++ (txI t 4)) := hD ⟨36, .data⟩ (by simp) rfl _ 56 rfl rfl
          have d58 : a.tmps.getD 58 undef = .string (op) := hD ⟨38, .data⟩ (by simp) rfl _ 58 rfl rfl
          rw [if_pos (by rfl)]
          clear hB hD hT
          go_simp
          exact hK _ _ hS (Below.refl _ _) rfl
        · intro a w1 hS hT hB hD K hK
          have d59 : a.tmps.getD 59 undef = .string (T0 ++ (txI (H + (da.size : Int)) 2) ++ (txI id 2) ++ (txI FL 2) ++ T1 ++ (txI f 4) ++ (txI t 4) ++ op) := hD ⟨39, .data⟩ (by simp) rfl _ 59 rfl rfl
          rw [if_pos (by rfl)]
          clear hB hD hT
          go_simp
          exact hK _ _ hS (Below.refl _ _) rfl
      · intro a w1 hS hT hdf hB hF
        clear HX6
        obtain ⟨⟨l⟩, df⟩ := a
        match l, hT with
        | x0 :: x1 :: x2 :: x3 :: x4 :: x5 :: x6 :: x7 :: x8 :: x9 :: x10 :: x11 :: x12 :: x13 :: x14 :: x15 :: x16 :: x17 :: x18 :: x19 :: x20 :: x21 :: x22 :: x23 :: x24 :: x25 :: x26 :: x27 :: x28 :: x29 :: x30 :: x31 :: x32 :: x33 :: x34 :: x35 :: x36 :: x37 :: x38 :: x39 :: x40 :: x41 :: x42 :: x43 :: x44 :: x45 :: x46 :: x47 :: x48 :: x49 :: x50 :: x51 :: x52 :: x53 :: x54 :: x55 :: x56 :: x57 :: x58 :: x59 :: x60 :: x61 :: x62 :: x63 :: x64 :: [], _ =>
          have s1 : x1 = .pointer (some ⟨w.heap.size, 0, none⟩) := hB 1 (by kernel_rfl)
          have s5 : x5 = .string (T0 ++ (txI (H + (da.size : Int)) 2) ++ (txI id 2) ++ (txI FL 2) ++ T1 ++ (txI f 4) ++ (txI t 4) ++ op) := hF 40 _ 5 rfl rfl
          have sd : df = [] := hdf
          subst s1 s5 sd
          clear hB hF
          go_wp2
          go_region_held3 (fun W => Below w.heap.size w W ∧ W.cell? ⟨w.heap.size, 0, none⟩ = some (.int .i64 f) ∧ W.cell? ⟨w.heap.size, 1, none⟩ = some (.int .i64 t) ∧ W.cell? ⟨w.heap.size, 2, none⟩ = some (.int .i64 tl) ∧ W.cell? ⟨w.heap.size, 3, none⟩ = some (.int .i64 pr) ∧ W.cell? ⟨w.heap.size, 4, none⟩ = some (.int .i64 id) ∧ W.cell? ⟨w.heap.size, 5, none⟩ = some (.int .i64 fr) ∧ W.cell? ⟨w.heap.size, 8, none⟩ = some (.string op) ∧ W.cell? ⟨w.heap.size, 9, none⟩ = some (.string da)) (first | exact ⟨hS.1.drew, hS.2⟩ | (refine keep8 hb ?_; assumption)) (first | (go_at_call 44; refine (HSE.out _).mono ?_; rintro e w' ⟨rfl, hb⟩))
          all_goals
            rename_i hq
            go_wp2
            go_ret
            exact ⟨rfl, hq.1⟩

theorem rbytes_y {f t tl pr id fr : Int} {mo dn : Bool} {op da : ByteArray} (h : mayP f t tl pr id fr mo op.size da.size = true) (w : World) :
    Calls Try.prog 34 #[.agg #[.int .i64 f, .int .i64 t, .int .i64 tl, .int .i64 pr, .int .i64 id, .int .i64 fr, .bool mo, .bool dn, .string op, .string da]] w fun e w' => e = .returned (.string (encP f t tl pr id fr mo dn op da)) ∧ Below w.heap.size w w' := by
  obtain ⟨-, -, -, -, -, ⟨h0, h1⟩, o4, o40, -, hz, -⟩ := mayP_q h
  have := rby_h f t tl pr id fr mo dn op da (20 + (op.size : Int)) (flagsV fr mo dn) w rfl rfl o40 (by omega) h0 h1
  rw [rhead_is] at this
  exact this
end Go.Proofs.Ytbbeepkcejiafaa
