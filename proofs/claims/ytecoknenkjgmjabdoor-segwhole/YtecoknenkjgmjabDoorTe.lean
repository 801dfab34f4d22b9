/- The contracts of the document's Bytes and Encode of segments: each returns just the values named here; nothing that was there turns. -/
import Derived.Test.YtecoknenkjgmjabDoorTc
import Derived.Test.YtecoknenkjgmjabDoorRb
import Derived.Test.YtecoknenkjgmjabDoorGx
import Derived.Test.YtecoknenkjgmjabDoorFactsF
import Derived.Test.YtecoknenkjgmjabDoorSg
import Derived.Deep.MidRow
import Derived.Deep.Cut
namespace Go.Proofs.YtecoknenkjgmjabDoor
open Go.RowKit
set_option maxRecDepth 100000
set_option linter.unusedVariables false

theorem wp_bslice2 {P : Program} {Q : Exit → Act → World → Prop} {o : Oper} {a : Act} {w : World} {K : Act → World → Prop} (t e : TypeId) (i j : Operand) (x y : Value) (cells : Array Value) (ho : o.op = .buildSlice t 2 #[(0, i), (1, j)]) (hi : a.eval i = x) (hj : a.eval j = y)
    (hrun : (Instr.buildSlice t 2 #[(0, x), (1, y)]).run P w = .ok (.slice (some ⟨w.heap.size, 0, none⟩) 2 2) (w.alloc (.cells cells e)))
    (h : K (a.put o.dst (.slice (some ⟨w.heap.size, 0, none⟩) 2 2)) (w.alloc (.cells cells e))) : Oper.wp P o a w K Q := by
  unfold Oper.wp execOp
  have e' : (#[(0, i), (1, j)].map fun (p : Nat × Operand) => (p.1, a.eval p.2)) = #[(0, x), (1, y)] := by simp [hi, hj]
  simp only [ho, Sem.run_bind]
  rw [e', hrun]
  exact h
theorem bs44 (X Y : Int) (w : World) : (Instr.buildSlice 44 2 #[(0, .int .u8 X), (1, .int .u8 Y)]).run Tryd.prog w = .ok (.slice (some ⟨w.heap.size, 0, none⟩) 2 2) (w.alloc (.cells #[.int .u8 X, .int .u8 Y] 5)) := by
  obtain ⟨i0, hi, hz0, hz1, hz2⟩ := info_parts Tryd.info5
  refine run_buildSlice w 44 5 2 _ _ i0 _ Tryd.underlying44 hi hz0 (by rw [hz1]; decide) (by rw [hz1]; decide) ?_
  rw [hz1]; kernel_rfl
def txI (n k : Int) : ByteArray := txt n k.toNat
theorem txI_size (n k : Int) : (txI n k).size = k.toNat := txt_size _ _
theorem rtextI (n k : Int) (w : World) (k0 : 1 ≤ k) (k1 : k ≤ 6) :
    Calls Tryd.prog 58 #[.int .i64 n, .int .i64 k] w fun e w' => e = .returned (.string (txI n k)) ∧ Below w.heap.size w w' := by
  obtain ⟨K, rfl⟩ := Int.eq_ofNat_of_zero_le (show 0 ≤ k by omega)
  exact rtext_any n K w (by omega) (by omega)
theorem low_byte (n : Int) : n % 256 = ((byteAt n 0).toNat : Int) := by rw [byteAt_toNat]; simp
theorem u8_wrap (n : Int) : IntKind.u8.wrap n = ((byteAt n 0).toNat : Int) := by rw [IntKind.wrap_u8']; exact low_byte n
def T0V (A B : Int) : ByteArray := ⟨[byteAt A 0, byteAt B 0].toArray⟩
theorem T0_is (A B : Int) : T0V A B = txt A 1 ++ txt B 1 := by
  apply ba_toList
  rw [app_toList, txt_toList, txt_toList]
  simp [T0V, txtL, byteAt]
theorem zz_is : (⟨#[0, 0]⟩ : ByteArray) = txt 0 2 := by decide +kernel
theorem pseuB_is (f t : Int) (n : Nat) (hf : numB f = true) (ht : numB t = true) (hn : n ≤ 65535) : codeB (pseuB f t 6 (n : Int)) = 0 := by
  have h1 := of_decide_eq_true hf
  have h2 := of_decide_eq_true ht
  unfold pseuB
  rw [outB_f (by omega), outB_f (by omega), outB_f (by omega), outB_f (by omega)]
  rfl
theorem rraw_is (s : Sg) (E T0 : ByteArray) (L : Int) (hE : E = s.o.enc) (hL : L = (20 + (E.size : Int)) / 4 * 16) (hT : T0 = T0V L s.fl) : (txI s.fr 2) ++ (txI s.dt 2) ++ (txI s.sq 4) ++ (txI s.ak 4) ++ T0 ++ (txI s.wi 2) ++ ⟨#[0, 0]⟩ ++ (txI s.ur 2) ++ E ++ s.da = rawS s := by
  have hLL : L = lonB s.o := by rw [hL, hE]; rfl
  rw [hT, T0_is, zz_is, hLL, hE]
  unfold rawS preS postS txI
  simp only [ByteArray.append_assoc]
  rfl
set_option maxHeartbeats 8000000 in
theorem rby_s (f t : Int) (s : Sg) (v : Value) (w : World) (hv : Rgs w v s.o.rs) (hf : numB f = true) (ht : numB t = true) (hm : mayG s = true) :
    Calls Tryd.prog 33 #[.int .i64 f, .int .i64 t, .agg #[.int .i64 s.fr, .int .i64 s.dt, .int .i64 s.sq, .int .i64 s.ak, .int .i64 s.fl, .int .i64 s.wi, .int .i64 s.ur, .int .i64 s.o.m, .int .i64 s.o.c, .int .i64 s.o.t, .int .i64 s.o.ec, .bool s.o.sd, .bool s.o.ok, .bool s.o.sp, v, .string s.da]] w fun e w' => e = .returned (.string (encS f t s)) ∧ Below w.heap.size w w' := by
  have hA := At.box w #[.int .i64 s.fr, .int .i64 s.dt, .int .i64 s.sq, .int .i64 s.ak, .int .i64 s.fl, .int .i64 s.wi, .int .i64 s.ur, .int .i64 s.o.m, .int .i64 s.o.c, .int .i64 s.o.t, .int .i64 s.o.ec, .bool s.o.sd, .bool s.o.ok, .bool s.o.sp, v, .string s.da] 28
  have hl := bel1 w (.cells #[.int .i64 s.fr, .int .i64 s.dt, .int .i64 s.sq, .int .i64 s.ak, .int .i64 s.fl, .int .i64 s.wi, .int .i64 s.ur, .int .i64 s.o.m, .int .i64 s.o.c, .int .i64 s.o.t, .int .i64 s.o.ec, .bool s.o.sd, .bool s.o.ok, .bool s.o.sp, v, .string s.da] 28)
  obtain ⟨-, -, -, -, -, -, -, ho, hd⟩ := may_all hm
  have hlo := enc_long ho
  have hb5 := lenS_bd hm
  have hn4 := mayO_short ho
  obtain ⟨E, hE⟩ : ∃ E, E = s.o.enc := ⟨_, rfl⟩
  obtain ⟨L, hL⟩ : ∃ L : Int, L = (20 + (E.size : Int)) / 4 * 16 := ⟨_, rfl⟩
  obtain ⟨T0, hT0⟩ : ∃ T, T = T0V L s.fl := ⟨_, rfl⟩
  have zT0 : T0.size = 2 := by rw [hT0]; rfl
  rw [← hE] at hlo
  have hraw := rraw_is s E T0 L hE hL hT0
  have hrz := rawS_size s
  have hpz := psS_size f t (lenS s)
  have HE : Hid (∀ W, Rgs W v s.o.rs → Calls Tryd.prog 57 #[.agg #[.int .i64 s.o.m, .int .i64 s.o.c, .int .i64 s.o.t, .int .i64 s.o.ec, .bool s.o.sd, .bool s.o.ok, .bool s.o.sp, v]] W fun e w' => e = .returned (.string E) ∧ Below W.heap.size W w') := fun W h1 => by
    have := rbytes_any s.o.m s.o.c s.o.t s.o.ec s.o.sd s.o.ok s.o.sp v s.o.rs W h1 hn4
    rw [hE]; exact this
  have e17 : IntKind.i64.wrap (20 + (E.size : Int)) = 20 + (E.size : Int) := by rw [IntKind.wrap_i64]; omega
  have e18 : IntKind.i64.wrap ((20 + (E.size : Int)).tdiv 4) = (20 + (E.size : Int)) / 4 := by rw [Int.tdiv_eq_ediv_of_nonneg (by omega), IntKind.wrap_i64]; omega
  have e19 : IntKind.i64.wrap ((20 + (E.size : Int)) / 4 * 16) = L := by rw [hL, IntKind.wrap_i64]; omega
  have u1 := u8_wrap L
  have u2 := u8_wrap s.fl
  have u1' := low_byte L
  have u2' := low_byte s.fl
  have k24 : (2 : Int).toNat = 2 ∧ (4 : Int).toNat = 4 := ⟨rfl, rfl⟩
  have zz : (⟨#[0, 0]⟩ : ByteArray).size = 2 := rfl
  have r1 : ∀ W, (Op.stringOp .add (txI s.fr 2) (txI s.dt 2)).run Tryd.prog W = .ok (.string ((txI s.fr 2) ++ (txI s.dt 2))) W := fun W => run_string_add_sum W _ _ (by simp only [txI_size]; omega)
  have r2 : ∀ W, (Op.stringOp .add ((txI s.fr 2) ++ (txI s.dt 2)) (txI s.sq 4)).run Tryd.prog W = .ok (.string ((txI s.fr 2) ++ (txI s.dt 2) ++ (txI s.sq 4))) W := fun W => run_string_add_sum W _ _ (by simp only [ByteArray.size_append, txI_size]; omega)
  have r3 : ∀ W, (Op.stringOp .add ((txI s.fr 2) ++ (txI s.dt 2) ++ (txI s.sq 4)) (txI s.ak 4)).run Tryd.prog W = .ok (.string ((txI s.fr 2) ++ (txI s.dt 2) ++ (txI s.sq 4) ++ (txI s.ak 4))) W := fun W => run_string_add_sum W _ _ (by simp only [ByteArray.size_append, txI_size]; omega)
  have r4 : ∀ W, (Op.stringOp .add ((txI s.fr 2) ++ (txI s.dt 2) ++ (txI s.sq 4) ++ (txI s.ak 4)) T0).run Tryd.prog W = .ok (.string ((txI s.fr 2) ++ (txI s.dt 2) ++ (txI s.sq 4) ++ (txI s.ak 4) ++ T0)) W := fun W => run_string_add_sum W _ _ (by simp only [ByteArray.size_append, txI_size, zT0]; omega)
  have r5 : ∀ W, (Op.stringOp .add ((txI s.fr 2) ++ (txI s.dt 2) ++ (txI s.sq 4) ++ (txI s.ak 4) ++ T0) (txI s.wi 2)).run Tryd.prog W = .ok (.string ((txI s.fr 2) ++ (txI s.dt 2) ++ (txI s.sq 4) ++ (txI s.ak 4) ++ T0 ++ (txI s.wi 2))) W := fun W => run_string_add_sum W _ _ (by simp only [ByteArray.size_append, txI_size, zT0]; omega)
  have r6 : ∀ W, (Op.stringOp .add ((txI s.fr 2) ++ (txI s.dt 2) ++ (txI s.sq 4) ++ (txI s.ak 4) ++ T0 ++ (txI s.wi 2)) ⟨#[0, 0]⟩).run Tryd.prog W = .ok (.string ((txI s.fr 2) ++ (txI s.dt 2) ++ (txI s.sq 4) ++ (txI s.ak 4) ++ T0 ++ (txI s.wi 2) ++ ⟨#[0, 0]⟩)) W := fun W => run_string_add_sum W _ _ (by simp only [ByteArray.size_append, txI_size, zT0, zz]; omega)
  have r7 : ∀ W, (Op.stringOp .add ((txI s.fr 2) ++ (txI s.dt 2) ++ (txI s.sq 4) ++ (txI s.ak 4) ++ T0 ++ (txI s.wi 2) ++ ⟨#[0, 0]⟩) (txI s.ur 2)).run Tryd.prog W = .ok (.string ((txI s.fr 2) ++ (txI s.dt 2) ++ (txI s.sq 4) ++ (txI s.ak 4) ++ T0 ++ (txI s.wi 2) ++ ⟨#[0, 0]⟩ ++ (txI s.ur 2))) W := fun W => run_string_add_sum W _ _ (by simp only [ByteArray.size_append, txI_size, zT0, zz]; omega)
  have r8 : ∀ W, (Op.stringOp .add ((txI s.fr 2) ++ (txI s.dt 2) ++ (txI s.sq 4) ++ (txI s.ak 4) ++ T0 ++ (txI s.wi 2) ++ ⟨#[0, 0]⟩ ++ (txI s.ur 2)) E).run Tryd.prog W = .ok (.string ((txI s.fr 2) ++ (txI s.dt 2) ++ (txI s.sq 4) ++ (txI s.ak 4) ++ T0 ++ (txI s.wi 2) ++ ⟨#[0, 0]⟩ ++ (txI s.ur 2) ++ E)) W := fun W => run_string_add_sum W _ _ (by simp only [ByteArray.size_append, txI_size, zT0, zz]; omega)
  have r9 : ∀ W, (Op.stringOp .add ((txI s.fr 2) ++ (txI s.dt 2) ++ (txI s.sq 4) ++ (txI s.ak 4) ++ T0 ++ (txI s.wi 2) ++ ⟨#[0, 0]⟩ ++ (txI s.ur 2) ++ E) s.da).run Tryd.prog W = .ok (.string (rawS s)) W := fun W => by
    have := run_string_add_sum (P := Tryd.prog) W ((txI s.fr 2) ++ (txI s.dt 2) ++ (txI s.sq 4) ++ (txI s.ak 4) ++ T0 ++ (txI s.wi 2) ++ ⟨#[0, 0]⟩ ++ (txI s.ur 2) ++ E) s.da (by simp only [ByteArray.size_append, txI_size, zT0, zz]; omega)
    rw [hraw] at this
    exact this
  have hps : ∀ W, Calls Tryd.prog 38 #[.int .i64 f, .int .i64 t, .int .i64 6, .int .i64 ((rawS s).size : Int)] W fun e w' => e = .returned (.tuple #[.string (psS f t (lenS s)), .int .i64 0]) ∧ Below W.heap.size W w' := fun W => by
    have := rpseudo_any f t 6 ((rawS s).size : Int) W
    rw [pseuV_is f t _ hf ht (by omega), hrz, pseuB_is f t _ hf ht (by omega)] at this
    rw [hrz]
    exact this
  have hsu : ∀ W, Calls Tryd.prog 59 #[.string (psS f t (lenS s) ++ rawS s)] W fun e w' => e = .returned (.int .i64 (sumG f t s)) ∧ w' = W := fun W => by
    have := rsum_any (psS f t (lenS s) ++ rawS s) W (by rw [ByteArray.size_append]; unfold maxLen; omega)
    rw [sum_raw] at this
    exact this
  have hh := raw_head s
  have htl := raw_tail s
  have hen : preS s ++ txI (sumG f t s) 2 ++ postS s = encS f t s := rfl
  have hpr := preS_size s
  have hpo := postS_size s
  unfold lenS at hb5 hrz
  rw [← hE] at hb5 hrz hpo
  generalize encS f t s = EN at *
  generalize sumG f t s = C at *
  generalize psS f t (lenS s) = PS at *
  generalize rawS s = RW at *
  generalize preS s = PR at *
  generalize postS s = PO at *
  have q1 : ∀ W, (Op.stringOp .add PS RW).run Tryd.prog W = .ok (.string (PS ++ RW)) W := fun W => run_string_add_sum W _ _ (by omega)
  have q2 : ∀ W, (Op.stringOp .add PR (txI C 2)).run Tryd.prog W = .ok (.string (PR ++ txI C 2)) W := fun W => run_string_add_sum W _ _ (by rw [txI_size]; omega)
  have q3 : ∀ W, (Op.stringOp .add (PR ++ txI C 2) PO).run Tryd.prog W = .ok (.string EN) W := fun W => by
    have := run_string_add_sum (P := Tryd.prog) W (PR ++ txI C 2) PO (by rw [ByteArray.size_append, txI_size]; omega)
    rw [hen] at this
    exact this
  have q4 : ∀ W, (Instr.slice 9 (.string RW) none (some (.int .i64 16)) none).run Tryd.prog W = .ok (.string PR) W := fun W => by
    rw [run_slice_string_to_if W 9 RW .i64 16 Tryd.underlying9, if_pos (by omega)]
    show _ = _
    rw [← hh]
    rfl
  have q5 : ∀ W, (Instr.slice 9 (.string RW) (some (.int .i64 18)) none none).run Tryd.prog W = .ok (.string PO) W := fun W => by
    rw [run_slice_string_from_if W 9 RW .i64 18 Tryd.underlying9, if_pos (by omega)]
    show _ = _
    rw [← htl]
    rfl
  have HPS : Hid (∀ W, Calls Tryd.prog 38 #[.int .i64 f, .int .i64 t, .int .i64 6, .int .i64 (RW.size : Int)] W fun e w' => e = .returned (.tuple #[.string PS, .int .i64 0]) ∧ Below W.heap.size W w') := hps
  have HSU : Hid (∀ W, Calls Tryd.prog 59 #[.string (PS ++ RW)] W fun e w' => e = .returned (.int .i64 C) ∧ w' = W) := hsu
  have HT0 : Hid (T0 = T0V L s.fl) := hT0
  clear hps hsu hT0 hE hL hraw hlo hb5 hn4 zT0 hrz hpz hh htl hen hpr hpo k24 zz hf ht hm ho hd
  go_enter Tryd.func33, Tryd.ntmps33
  go_upto_region 1 with fail
  go_cut [7] from 11 (fun q W => q = .string E ∧ Below w.heap.size w W ∧ At W w.heap.size #[.int .i64 s.fr, .int .i64 s.dt, .int .i64 s.sq, .int .i64 s.ak, .int .i64 s.fl, .int .i64 s.wi, .int .i64 s.ur, .int .i64 s.o.m, .int .i64 s.o.c, .int .i64 s.o.t, .int .i64 s.o.ec, .bool s.o.sd, .bool s.o.ok, .bool s.o.sp, v, .string s.da])
  case first =>
    go_wp2_with (refine wpList_loadG 26 _ (by rfl) (by rfl) w.heap.size 7 (by rfl) _ _ hA.opts Tryd.underlying26 rfl size26 ?_)
    refine (HE.out _ (hv.later hl)).mono ?_
    rintro e w2 ⟨rfl, hb⟩
    replace hl := bt hl hb
    replace hA := hA.later hb
    clear hb HE
    go_wp2
    go_meet
    case rel => exact ⟨rfl, hl, hA⟩
  case rest =>
  clear hl hA
  obtain ⟨rfl, hl, hA⟩ := hcut
  go_wp2
  refine wp_region_any (by kernel_rfl) ?_
  refine region_facts (fun W => Below w.heap.size w W ∧ At W w.heap.size #[.int .i64 s.fr, .int .i64 s.dt, .int .i64 s.sq, .int .i64 s.ak, .int .i64 s.fl, .int .i64 s.wi, .int .i64 s.ur, .int .i64 s.o.m, .int .i64 s.o.c, .int .i64 s.o.t, .int .i64 s.o.ec, .bool s.o.sd, .bool s.o.ok, .bool s.o.sp, v, .string s.da]) (GE (fun qq => match qq with | 0 => .pointer (some ⟨w.heap.size, 0, none⟩) | 1 => .int .i64 (s.fr) | 2 => .string (txI s.fr 2) | 3 => .pointer (some ⟨w.heap.size, 1, none⟩) | 4 => .int .i64 (s.dt) | 5 => .string (txI s.dt 2) | 6 => .string ((txI s.fr 2) ++ (txI s.dt 2)) | 7 => .pointer (some ⟨w.heap.size, 2, none⟩) | 8 => .int .i64 (s.sq) | 9 => .string (txI s.sq 4) | 10 => .string ((txI s.fr 2) ++ (txI s.dt 2) ++ (txI s.sq 4)) | 11 => .pointer (some ⟨w.heap.size, 3, none⟩) | 12 => .int .i64 (s.ak) | 13 => .string (txI s.ak 4) | 14 => .string ((txI s.fr 2) ++ (txI s.dt 2) ++ (txI s.sq 4) ++ (txI s.ak 4)) | 15 => .string E | 16 => .int .i64 ((E.size : Int)) | 17 => .int .i64 (20 + (E.size : Int)) | 18 => .int .i64 ((20 + (E.size : Int)) / 4) | 19 => .int .i64 (L) | 20 => .int .u8 ((byteAt L 0).toNat : Int) | 21 => .pointer (some ⟨w.heap.size, 4, none⟩) | 22 => .int .i64 (s.fl) | 23 => .int .u8 ((byteAt s.fl 0).toNat : Int) | 25 => .string T0 | 26 => .string ((txI s.fr 2) ++ (txI s.dt 2) ++ (txI s.sq 4) ++ (txI s.ak 4) ++ T0) | 27 => .pointer (some ⟨w.heap.size, 5, none⟩) | 28 => .int .i64 (s.wi) | 29 => .string (txI s.wi 2) | 30 => .string ((txI s.fr 2) ++ (txI s.dt 2) ++ (txI s.sq 4) ++ (txI s.ak 4) ++ T0 ++ (txI s.wi 2)) | 31 => .string ((txI s.fr 2) ++ (txI s.dt 2) ++ (txI s.sq 4) ++ (txI s.ak 4) ++ T0 ++ (txI s.wi 2) ++ ⟨#[0, 0]⟩) | 32 => .pointer (some ⟨w.heap.size, 6, none⟩) | 33 => .int .i64 (s.ur) | 34 => .string (txI s.ur 2) | 35 => .string ((txI s.fr 2) ++ (txI s.dt 2) ++ (txI s.sq 4) ++ (txI s.ak 4) ++ T0 ++ (txI s.wi 2) ++ ⟨#[0, 0]⟩ ++ (txI s.ur 2)) | 36 => .string E | 37 => .string ((txI s.fr 2) ++ (txI s.dt 2) ++ (txI s.sq 4) ++ (txI s.ak 4) ++ T0 ++ (txI s.wi 2) ++ ⟨#[0, 0]⟩ ++ (txI s.ur 2) ++ E) | 38 => .pointer (some ⟨w.heap.size, 15, none⟩) | 39 => .string s.da | 40 => .string RW | 41 => .string RW | _ => undef) (fun qq => match qq with | 24 => some (fun v W => ∃ g, v = .slice (some ⟨g, 0, none⟩) 2 2 ∧ W.cell? ⟨g, 0, none⟩ = some (.int .u8 ((byteAt L 0).toNat : Int)) ∧ W.cell? ⟨g, 1, none⟩ = some (.int .u8 ((byteAt s.fl 0).toNat : Int))) | _ => none)) (n := 74) (by kernel_rfl) rfl (by kernel_rfl) (GE_later _ _ (by
      intro i F hF v w w' h hb
      split at hF
      · obtain rfl := Option.some.inj hF
        obtain ⟨g, e, h0, h1⟩ := h
        exact ⟨g, e, later hb h0, later hb h1⟩
      · cases hF)) ?_ ?_ ⟨hl.drew, hA.later ((Below.refl _ _).drew)⟩ (Nat.le_refl _)
  · clear hl hA HPS HSU
    refine ⟨?_, ?_, ?_, ?_, ?_, ?_, ?_, ?_, ?_, ?_, ?_, ?_, ?_, ?_, ?_, ?_, ?_, ?_, ?_, ?_, ?_, ?_, ?_, ?_, ?_, ?_, ?_, ?_, ?_, ?_, ?_, ?_, ?_, ?_, ?_, ?_, ?_, ?_, ?_, ?_, ?_, ?_, trivial⟩
    · intro ac w1 hS hT hB hD K hK
      rw [if_pos (by rfl)]
      have d5 : ac.tmps.getD 5 undef = .pointer (some ⟨w.heap.size, 0, none⟩) := hB 5 (by kernel_rfl)
      clear hB hD hT
      go_simp
      exact hK _ _ hS (Below.refl _ _) rfl
    · intro ac w1 hS hT hB hD K hK
      rw [if_pos (by rfl)]
      have d14 : ac.tmps.getD 14 undef = .pointer (some ⟨w.heap.size, 0, none⟩) := hD ⟨0, .data⟩ (by simp) rfl _ 14 rfl rfl
      clear hB hD hT
      have hc := hS.2.sixteen.1
      go_simp
      exact hK _ _ hS (Below.refl _ _) rfl
    · intro ac w1 hS hT hB hD K hK
      rw [if_pos (by rfl)]
      have d15 : ac.tmps.getD 15 undef = .int .i64 (s.fr) := hD ⟨1, .data⟩ (by simp) rfl _ 15 rfl rfl
      clear hB hD hT
      go_simp
      refine (rtextI _ _ _ (by decide) (by decide)).mono ?_
      rintro e w' ⟨rfl, hb⟩
      exact hK _ _ ⟨bt hS.1 hb, hS.2.later hb⟩ hb rfl
    · intro ac w1 hS hT hB hD K hK
      rw [if_pos (by rfl)]
      have d5 : ac.tmps.getD 5 undef = .pointer (some ⟨w.heap.size, 0, none⟩) := hB 5 (by kernel_rfl)
      clear hB hD hT
      go_simp
      exact hK _ _ hS (Below.refl _ _) rfl
    · intro ac w1 hS hT hB hD K hK
      rw [if_pos (by rfl)]
      have d17 : ac.tmps.getD 17 undef = .pointer (some ⟨w.heap.size, 1, none⟩) := hD ⟨3, .data⟩ (by simp) rfl _ 17 rfl rfl
      clear hB hD hT
      have hc := hS.2.sixteen.1
      go_simp
      exact hK _ _ hS (Below.refl _ _) rfl
    · intro ac w1 hS hT hB hD K hK
      rw [if_pos (by rfl)]
      have d18 : ac.tmps.getD 18 undef = .int .i64 (s.dt) := hD ⟨4, .data⟩ (by simp) rfl _ 18 rfl rfl
      clear hB hD hT
      go_simp
      refine (rtextI _ _ _ (by decide) (by decide)).mono ?_
      rintro e w' ⟨rfl, hb⟩
      exact hK _ _ ⟨bt hS.1 hb, hS.2.later hb⟩ hb rfl
    · intro ac w1 hS hT hB hD K hK
      rw [if_pos (by rfl)]
      have d16 : ac.tmps.getD 16 undef = .string (txI s.fr 2) := hD ⟨2, .data⟩ (by simp) rfl _ 16 rfl rfl
      have d19 : ac.tmps.getD 19 undef = .string (txI s.dt 2) := hD ⟨5, .data⟩ (by simp) rfl _ 19 rfl rfl
      clear hB hD hT
      go_simp
      exact hK _ _ hS (Below.refl _ _) rfl
    · intro ac w1 hS hT hB hD K hK
      rw [if_pos (by rfl)]
      have d5 : ac.tmps.getD 5 undef = .pointer (some ⟨w.heap.size, 0, none⟩) := hB 5 (by kernel_rfl)
      clear hB hD hT
      go_simp
      exact hK _ _ hS (Below.refl _ _) rfl
    · intro ac w1 hS hT hB hD K hK
      rw [if_pos (by rfl)]
      have d21 : ac.tmps.getD 21 undef = .pointer (some ⟨w.heap.size, 2, none⟩) := hD ⟨7, .data⟩ (by simp) rfl _ 21 rfl rfl
      clear hB hD hT
      have hc := hS.2.sixteen.1
      go_simp
      exact hK _ _ hS (Below.refl _ _) rfl
    · intro ac w1 hS hT hB hD K hK
      rw [if_pos (by rfl)]
      have d22 : ac.tmps.getD 22 undef = .int .i64 (s.sq) := hD ⟨8, .data⟩ (by simp) rfl _ 22 rfl rfl
      clear hB hD hT
      go_simp
      refine (rtextI _ _ _ (by decide) (by decide)).mono ?_
      rintro e w' ⟨rfl, hb⟩
      exact hK _ _ ⟨bt hS.1 hb, hS.2.later hb⟩ hb rfl
    · intro ac w1 hS hT hB hD K hK
      rw [if_pos (by rfl)]
      have d20 : ac.tmps.getD 20 undef = .string ((txI s.fr 2) ++ (txI s.dt 2)) := hD ⟨6, .data⟩ (by simp) rfl _ 20 rfl rfl
      have d23 : ac.tmps.getD 23 undef = .string (txI s.sq 4) := hD ⟨9, .data⟩ (by simp) rfl _ 23 rfl rfl
      clear hB hD hT
      go_simp
      exact hK _ _ hS (Below.refl _ _) rfl
    · intro ac w1 hS hT hB hD K hK
      rw [if_pos (by rfl)]
      have d5 : ac.tmps.getD 5 undef = .pointer (some ⟨w.heap.size, 0, none⟩) := hB 5 (by kernel_rfl)
      clear hB hD hT
      go_simp
      exact hK _ _ hS (Below.refl _ _) rfl
    · intro ac w1 hS hT hB hD K hK
      rw [if_pos (by rfl)]
      have d25 : ac.tmps.getD 25 undef = .pointer (some ⟨w.heap.size, 3, none⟩) := hD ⟨11, .data⟩ (by simp) rfl _ 25 rfl rfl
      clear hB hD hT
      have hc := hS.2.sixteen.1
      go_simp
      exact hK _ _ hS (Below.refl _ _) rfl
    · intro ac w1 hS hT hB hD K hK
      rw [if_pos (by rfl)]
      have d26 : ac.tmps.getD 26 undef = .int .i64 (s.ak) := hD ⟨12, .data⟩ (by simp) rfl _ 26 rfl rfl
      clear hB hD hT
      go_simp
      refine (rtextI _ _ _ (by decide) (by decide)).mono ?_
      rintro e w' ⟨rfl, hb⟩
      exact hK _ _ ⟨bt hS.1 hb, hS.2.later hb⟩ hb rfl
    · intro ac w1 hS hT hB hD K hK
      rw [if_pos (by rfl)]
      have d24 : ac.tmps.getD 24 undef = .string ((txI s.fr 2) ++ (txI s.dt 2) ++ (txI s.sq 4)) := hD ⟨10, .data⟩ (by simp) rfl _ 24 rfl rfl
      have d27 : ac.tmps.getD 27 undef = .string (txI s.ak 4) := hD ⟨13, .data⟩ (by simp) rfl _ 27 rfl rfl
      clear hB hD hT
      go_simp
      exact hK _ _ hS (Below.refl _ _) rfl
    · intro ac w1 hS hT hB hD K hK
      rw [if_pos (by rfl)]
      have d7 : ac.tmps.getD 7 undef = .string E := hB 7 (by kernel_rfl)
      clear hB hD hT
      go_simp
      exact hK _ _ hS (Below.refl _ _) rfl
    · intro ac w1 hS hT hB hD K hK
      rw [if_pos (by rfl)]
      have d29 : ac.tmps.getD 29 undef = .string E := hD ⟨15, .data⟩ (by simp) rfl _ 29 rfl rfl
      clear hB hD hT
      go_simp
      exact hK _ _ hS (Below.refl _ _) rfl
    · intro ac w1 hS hT hB hD K hK
      rw [if_pos (by rfl)]
      have d30 : ac.tmps.getD 30 undef = .int .i64 ((E.size : Int)) := hD ⟨16, .data⟩ (by simp) rfl _ 30 rfl rfl
      clear hB hD hT
      go_simp
      exact hK _ _ hS (Below.refl _ _) rfl
    · intro ac w1 hS hT hB hD K hK
      rw [if_pos (by rfl)]
      have d31 : ac.tmps.getD 31 undef = .int .i64 (20 + (E.size : Int)) := hD ⟨17, .data⟩ (by simp) rfl _ 31 rfl rfl
      clear hB hD hT
      go_simp
      exact hK _ _ hS (Below.refl _ _) rfl
    · intro ac w1 hS hT hB hD K hK
      rw [if_pos (by rfl)]
      have d32 : ac.tmps.getD 32 undef = .int .i64 ((20 + (E.size : Int)) / 4) := hD ⟨18, .data⟩ (by simp) rfl _ 32 rfl rfl
      clear hB hD hT
      go_simp
      exact hK _ _ hS (Below.refl _ _) rfl
    · intro ac w1 hS hT hB hD K hK
      rw [if_pos (by rfl)]
      have d33 : ac.tmps.getD 33 undef = .int .i64 (L) := hD ⟨19, .data⟩ (by simp) rfl _ 33 rfl rfl
      clear hB hD hT
      go_simp
      exact hK _ _ hS (Below.refl _ _) rfl
    · intro ac w1 hS hT hB hD K hK
      rw [if_pos (by rfl)]
      have d5 : ac.tmps.getD 5 undef = .pointer (some ⟨w.heap.size, 0, none⟩) := hB 5 (by kernel_rfl)
      clear hB hD hT
      go_simp
      exact hK _ _ hS (Below.refl _ _) rfl
    · intro ac w1 hS hT hB hD K hK
      rw [if_pos (by rfl)]
      have d35 : ac.tmps.getD 35 undef = .pointer (some ⟨w.heap.size, 4, none⟩) := hD ⟨21, .data⟩ (by simp) rfl _ 35 rfl rfl
      clear hB hD hT
      have hc := hS.2.sixteen.1
      go_simp
      exact hK _ _ hS (Below.refl _ _) rfl
    · intro ac w1 hS hT hB hD K hK
      rw [if_pos (by rfl)]
      have d36 : ac.tmps.getD 36 undef = .int .i64 (s.fl) := hD ⟨22, .data⟩ (by simp) rfl _ 36 rfl rfl
      clear hB hD hT
      go_simp
      exact hK _ _ hS (Below.refl _ _) rfl
    · intro ac w1 hS hT hB hD K hK
      rw [if_pos (by rfl)]
      have d34 : ac.tmps.getD 34 undef = .int .u8 ((byteAt L 0).toNat : Int) := hD ⟨20, .data⟩ (by simp) rfl _ 34 rfl rfl
      have d37 : ac.tmps.getD 37 undef = .int .u8 ((byteAt s.fl 0).toNat : Int) := hD ⟨23, .data⟩ (by simp) rfl _ 37 rfl rfl
      clear hB hD hT
      exact wp_bslice2 44 5 (.tmp 34) (.tmp 37) (.int .u8 ((byteAt L 0).toNat : Int)) (.int .u8 ((byteAt s.fl 0).toNat : Int)) #[.int .u8 ((byteAt L 0).toNat : Int), .int .u8 ((byteAt s.fl 0).toNat : Int)] rfl d34 d37 (bs44 _ _ _) (hK _ _ ⟨bt hS.1 (bel1 _ _), hS.2.later (bel1 _ _)⟩ (bel1 _ _) ⟨_, rfl, ((At.box w1 #[.int .u8 ((byteAt L 0).toNat : Int), .int .u8 ((byteAt s.fl 0).toNat : Int)] 5).2 0 _ rfl).1, ((At.box w1 #[.int .u8 ((byteAt L 0).toNat : Int), .int .u8 ((byteAt s.fl 0).toNat : Int)] 5).2 1 _ rfl).1⟩)
    · intro ac w1 hS hT hB hD K hK
      rw [if_pos (by rfl)]
      obtain ⟨g, d38, hc0, hc1⟩ := hD ⟨24, .data⟩ (by simp) rfl _ 38 rfl rfl
      clear hB hD hT
      have hcv := run_convert_bytes_back (P := Tryd.prog) w1 44 9 5 ⟨g, 0, none⟩ 2 [byteAt L 0, byteAt s.fl 0] Tryd.underlying44 Tryd.underlying5 Tryd.underlying9 (by
        intro k hk; rw [Addr.add_lit, Nat.zero_add]
        have : k < 2 := hk
        obtain rfl | rfl : k = 0 ∨ k = 1 := by omega
        · exact hc0
        · exact hc1)
      clear hc0 hc1
      have hcw : (convert 44 9 (.slice (some ⟨g, 0, none⟩) 2 2)).run Tryd.prog w1 = .ok (.string T0) w1 := by rw [HT0.out]; exact hcv
      clear hcv
      go_simp
      exact hK _ _ hS (Below.refl _ _) rfl
    · intro ac w1 hS hT hB hD K hK
      rw [if_pos (by rfl)]
      have d28 : ac.tmps.getD 28 undef = .string ((txI s.fr 2) ++ (txI s.dt 2) ++ (txI s.sq 4) ++ (txI s.ak 4)) := hD ⟨14, .data⟩ (by simp) rfl _ 28 rfl rfl
      have d39 : ac.tmps.getD 39 undef = .string T0 := hD ⟨25, .data⟩ (by simp) rfl _ 39 rfl rfl
      clear hB hD hT
      go_simp
      exact hK _ _ hS (Below.refl _ _) rfl
    · intro ac w1 hS hT hB hD K hK
      rw [if_pos (by rfl)]
      have d5 : ac.tmps.getD 5 undef = .pointer (some ⟨w.heap.size, 0, none⟩) := hB 5 (by kernel_rfl)
      clear hB hD hT
      go_simp
      exact hK _ _ hS (Below.refl _ _) rfl
    · intro ac w1 hS hT hB hD K hK
      rw [if_pos (by rfl)]
      have d41 : ac.tmps.getD 41 undef = .pointer (some ⟨w.heap.size, 5, none⟩) := hD ⟨27, .data⟩ (by simp) rfl _ 41 rfl rfl
      clear hB hD hT
      have hc := hS.2.sixteen.1
      go_simp
      exact hK _ _ hS (Below.refl _ _) rfl
    · intro ac w1 hS hT hB hD K hK
      rw [if_pos (by rfl)]
      have d42 : ac.tmps.getD 42 undef = .int .i64 (s.wi) := hD ⟨28, .data⟩ (by simp) rfl _ 42 rfl rfl
      clear hB hD hT
      go_simp
      refine (rtextI _ _ _ (by decide) (by decide)).mono ?_
      rintro e w' ⟨rfl, hb⟩
      exact hK _ _ ⟨bt hS.1 hb, hS.2.later hb⟩ hb rfl
    · intro ac w1 hS hT hB hD K hK
      rw [if_pos (by rfl)]
      have d40 : ac.tmps.getD 40 undef = .string ((txI s.fr 2) ++ (txI s.dt 2) ++ (txI s.sq 4) ++ (txI s.ak 4) ++ T0) := hD ⟨26, .data⟩ (by simp) rfl _ 40 rfl rfl
      have d43 : ac.tmps.getD 43 undef = .string (txI s.wi 2) := hD ⟨29, .data⟩ (by simp) rfl _ 43 rfl rfl
      clear hB hD hT
      go_simp
      exact hK _ _ hS (Below.refl _ _) rfl
    · intro ac w1 hS hT hB hD K hK
      rw [if_pos (by rfl)]
      have d44 : ac.tmps.getD 44 undef = .string ((txI s.fr 2) ++ (txI s.dt 2) ++ (txI s.sq 4) ++ (txI s.ak 4) ++ T0 ++ (txI s.wi 2)) := hD ⟨30, .data⟩ (by simp) rfl _ 44 rfl rfl
      clear hB hD hT
      go_simp
      exact hK _ _ hS (Below.refl _ _) rfl
    · intro ac w1 hS hT hB hD K hK
      rw [if_pos (by rfl)]
      have d5 : ac.tmps.getD 5 undef = .pointer (some ⟨w.heap.size, 0, none⟩) := hB 5 (by kernel_rfl)
      clear hB hD hT
      go_simp
      exact hK _ _ hS (Below.refl _ _) rfl
    · intro ac w1 hS hT hB hD K hK
      rw [if_pos (by rfl)]
      have d46 : ac.tmps.getD 46 undef = .pointer (some ⟨w.heap.size, 6, none⟩) := hD ⟨32, .data⟩ (by simp) rfl _ 46 rfl rfl
      clear hB hD hT
      have hc := hS.2.sixteen.1
      go_simp
      exact hK _ _ hS (Below.refl _ _) rfl
    · intro ac w1 hS hT hB hD K hK
      rw [if_pos (by rfl)]
      have d47 : ac.tmps.getD 47 undef = .int .i64 (s.ur) := hD ⟨33, .data⟩ (by simp) rfl _ 47 rfl rfl
      clear hB hD hT
      go_simp
      refine (rtextI _ _ _ (by decide) (by decide)).mono ?_
      rintro e w' ⟨rfl, hb⟩
      exact hK _ _ ⟨bt hS.1 hb, hS.2.later hb⟩ hb rfl
    · intro ac w1 hS hT hB hD K hK
      rw [if_pos (by rfl)]
      have d45 : ac.tmps.getD 45 undef = .string ((txI s.fr 2) ++ (txI s.dt 2) ++ (txI s.sq 4) ++ (txI s.ak 4) ++ T0 ++ (txI s.wi 2) ++ ⟨#[0, 0]⟩) := hD ⟨31, .data⟩ (by simp) rfl _ 45 rfl rfl
      have d48 : ac.tmps.getD 48 undef = .string (txI s.ur 2) := hD ⟨34, .data⟩ (by simp) rfl _ 48 rfl rfl
      clear hB hD hT
      go_simp
      exact hK _ _ hS (Below.refl _ _) rfl
    · intro ac w1 hS hT hB hD K hK
      rw [if_pos (by rfl)]
      have d7 : ac.tmps.getD 7 undef = .string E := hB 7 (by kernel_rfl)
      clear hB hD hT
      go_simp
      exact hK _ _ hS (Below.refl _ _) rfl
    · intro ac w1 hS hT hB hD K hK
      rw [if_pos (by rfl)]
      have d49 : ac.tmps.getD 49 undef = .string ((txI s.fr 2) ++ (txI s.dt 2) ++ (txI s.sq 4) ++ (txI s.ak 4) ++ T0 ++ (txI s.wi 2) ++ ⟨#[0, 0]⟩ ++ (txI s.ur 2)) := hD ⟨35, .data⟩ (by simp) rfl _ 49 rfl rfl
      have d50 : ac.tmps.getD 50 undef = .string E := hD ⟨36, .data⟩ (by simp) rfl _ 50 rfl rfl
      clear hB hD hT
      go_simp
      exact hK _ _ hS (Below.refl _ _) rfl
    · intro ac w1 hS hT hB hD K hK
      rw [if_pos (by rfl)]
      have d5 : ac.tmps.getD 5 undef = .pointer (some ⟨w.heap.size, 0, none⟩) := hB 5 (by kernel_rfl)
      clear hB hD hT
      go_simp
      exact hK _ _ hS (Below.refl _ _) rfl
    · intro ac w1 hS hT hB hD K hK
      rw [if_pos (by rfl)]
      have d52 : ac.tmps.getD 52 undef = .pointer (some ⟨w.heap.size, 15, none⟩) := hD ⟨38, .data⟩ (by simp) rfl _ 52 rfl rfl
      clear hB hD hT
      have hc := hS.2.sixteen.1
      go_simp
      exact hK _ _ hS (Below.refl _ _) rfl
    · intro ac w1 hS hT hB hD K hK
      rw [if_pos (by rfl)]
      have d51 : ac.tmps.getD 51 undef = .string ((txI s.fr 2) ++ (txI s.dt 2) ++ (txI s.sq 4) ++ (txI s.ak 4) ++ T0 ++ (txI s.wi 2) ++ ⟨#[0, 0]⟩ ++ (txI s.ur 2) ++ E) := hD ⟨37, .data⟩ (by simp) rfl _ 51 rfl rfl
      have d53 : ac.tmps.getD 53 undef = .string s.da := hD ⟨39, .data⟩ (by simp) rfl _ 53 rfl rfl
      clear hB hD hT
      go_simp
      exact hK _ _ hS (Below.refl _ _) rfl
    · intro ac w1 hS hT hB hD K hK
      rw [if_pos (by rfl)]
      have d54 : ac.tmps.getD 54 undef = .string RW := hD ⟨40, .data⟩ (by simp) rfl _ 54 rfl rfl
      clear hB hD hT
      go_simp
      exact hK _ _ hS (Below.refl _ _) rfl
  · intro ac w9 hS hT hdf hB hF
    clear hl hA HT0 e17 e18 e19
    have hfr : ac.tmps = #[.int .i64 (f), .int .i64 (t), .agg #[.int .i64 s.fr, .int .i64 s.dt, .int .i64 s.sq, .int .i64 s.ak, .int .i64 s.fl, .int .i64 s.wi, .int .i64 s.ur, .int .i64 s.o.m, .int .i64 s.o.c, .int .i64 s.o.t, .int .i64 s.o.ec, .bool s.o.sd, .bool s.o.ok, .bool s.o.sp, v, .string s.da], undef, undef, .pointer (some ⟨w.heap.size, 0, none⟩), .string ⟨#[]⟩, .string E, (ac.tmps.getD 8 undef), undef, undef, u11, u12, u13, (ac.tmps.getD 14 undef), (ac.tmps.getD 15 undef), (ac.tmps.getD 16 undef), (ac.tmps.getD 17 undef), (ac.tmps.getD 18 undef), (ac.tmps.getD 19 undef), (ac.tmps.getD 20 undef), (ac.tmps.getD 21 undef), (ac.tmps.getD 22 undef), (ac.tmps.getD 23 undef), (ac.tmps.getD 24 undef), (ac.tmps.getD 25 undef), (ac.tmps.getD 26 undef), (ac.tmps.getD 27 undef), (ac.tmps.getD 28 undef), (ac.tmps.getD 29 undef), (ac.tmps.getD 30 undef), (ac.tmps.getD 31 undef), (ac.tmps.getD 32 undef), (ac.tmps.getD 33 undef), (ac.tmps.getD 34 undef), (ac.tmps.getD 35 undef), (ac.tmps.getD 36 undef), (ac.tmps.getD 37 undef), (ac.tmps.getD 38 undef), (ac.tmps.getD 39 undef), (ac.tmps.getD 40 undef), (ac.tmps.getD 41 undef), (ac.tmps.getD 42 undef), (ac.tmps.getD 43 undef), (ac.tmps.getD 44 undef), (ac.tmps.getD 45 undef), (ac.tmps.getD 46 undef), (ac.tmps.getD 47 undef), (ac.tmps.getD 48 undef), (ac.tmps.getD 49 undef), (ac.tmps.getD 50 undef), (ac.tmps.getD 51 undef), (ac.tmps.getD 52 undef), (ac.tmps.getD 53 undef), (ac.tmps.getD 54 undef), u55, u56, u57, u58, u59, u60, u61, u62, u63, u64, u65, u66, u67, u68, u69, u70, u71, u72, u73] := (frame_eq hT rfl hB).trans (by kernel_rfl)
    obtain ⟨T, df⟩ := ac
    have s8 : T.getD 8 undef = .string RW := hF 41 _ 8 rfl rfl
    have sdf : df = [] := hdf
    simp only at hfr
    clear hB hF hT hdf
    generalize T.getD 14 undef = y14 at *
    generalize T.getD 15 undef = y15 at *
    generalize T.getD 16 undef = y16 at *
    generalize T.getD 17 undef = y17 at *
    generalize T.getD 18 undef = y18 at *
    generalize T.getD 19 undef = y19 at *
    generalize T.getD 20 undef = y20 at *
    generalize T.getD 21 undef = y21 at *
    generalize T.getD 22 undef = y22 at *
    generalize T.getD 23 undef = y23 at *
    generalize T.getD 24 undef = y24 at *
    generalize T.getD 25 undef = y25 at *
    generalize T.getD 26 undef = y26 at *
    generalize T.getD 27 undef = y27 at *
    generalize T.getD 28 undef = y28 at *
    generalize T.getD 29 undef = y29 at *
    generalize T.getD 30 undef = y30 at *
    generalize T.getD 31 undef = y31 at *
    generalize T.getD 32 undef = y32 at *
    generalize T.getD 33 undef = y33 at *
    generalize T.getD 34 undef = y34 at *
    generalize T.getD 35 undef = y35 at *
    generalize T.getD 36 undef = y36 at *
    generalize T.getD 37 undef = y37 at *
    generalize T.getD 38 undef = y38 at *
    generalize T.getD 39 undef = y39 at *
    generalize T.getD 40 undef = y40 at *
    generalize T.getD 41 undef = y41 at *
    generalize T.getD 42 undef = y42 at *
    generalize T.getD 43 undef = y43 at *
    generalize T.getD 44 undef = y44 at *
    generalize T.getD 45 undef = y45 at *
    generalize T.getD 46 undef = y46 at *
    generalize T.getD 47 undef = y47 at *
    generalize T.getD 48 undef = y48 at *
    generalize T.getD 49 undef = y49 at *
    generalize T.getD 50 undef = y50 at *
    generalize T.getD 51 undef = y51 at *
    generalize T.getD 52 undef = y52 at *
    generalize T.getD 53 undef = y53 at *
    generalize T.getD 54 undef = y54 at *
    generalize T.getD 8 undef = y8 at *
    subst hfr s8 sdf
    have hl := hS.1
    clear hS
    go_upto_region 3 with fail
    go_cut [9, 10] from 11 (fun z y W => z = .string PS ∧ y = .int .i64 0 ∧ Below w.heap.size w W)
    case first =>
      go_wp2_with fail
      refine (HPS.out _).mono ?_
      rintro e w3 ⟨rfl, hb⟩
      replace hl := bt hl hb
      clear hb HPS
      go_wp2
      go_meet
      case rel => exact ⟨rfl, rfl, hl⟩
    case rest =>
    clear hl
    obtain ⟨rfl, rfl, hl⟩ := hcut
    go_wp2
    refine wp_region_any (by kernel_rfl) ?_
    refine region_facts (fun W => Below w.heap.size w W) (GE (fun qq => match qq with | 0 => .string RW | 1 => .string PR | 2 => .string PS | 3 => .string RW | 4 => .string (PS ++ RW) | 5 => .int .i64 (C) | 6 => .string (txI C 2) | 7 => .string (PR ++ txI C 2) | 8 => .string RW | 9 => .string PO | 10 => .string EN | 11 => .string EN | _ => undef) (fun _ => none)) (n := 74) (by kernel_rfl) rfl (by kernel_rfl) (GE_later _ _ (fun _ _ h => by cases h)) ?_ ?_ hl.drew (Nat.le_refl _)
    · skip
      refine ⟨?_, ?_, ?_, ?_, ?_, ?_, ?_, ?_, ?_, ?_, ?_, ?_, trivial⟩
      · intro ac w1 hS hT hB hD K hK
        rw [if_pos (by rfl)]
        have d8 : ac.tmps.getD 8 undef = .string RW := hB 8 (by kernel_rfl)
        clear hB hD hT
        go_simp
        exact hK _ _ hS (Below.refl _ _) rfl
      · intro ac w1 hS hT hB hD K hK
        rw [if_pos (by rfl)]
        have d63 : ac.tmps.getD 63 undef = .string RW := hD ⟨0, .data⟩ (by simp) rfl _ 63 rfl rfl
        clear hB hD hT
        go_simp
        exact hK _ _ hS (Below.refl _ _) rfl
      · intro ac w1 hS hT hB hD K hK
        rw [if_pos (by rfl)]
        have d9 : ac.tmps.getD 9 undef = .string PS := hB 9 (by kernel_rfl)
        clear hB hD hT
        go_simp
        exact hK _ _ hS (Below.refl _ _) rfl
      · intro ac w1 hS hT hB hD K hK
        rw [if_pos (by rfl)]
        have d8 : ac.tmps.getD 8 undef = .string RW := hB 8 (by kernel_rfl)
        clear hB hD hT
        go_simp
        exact hK _ _ hS (Below.refl _ _) rfl
      · intro ac w1 hS hT hB hD K hK
        rw [if_pos (by rfl)]
        have d65 : ac.tmps.getD 65 undef = .string PS := hD ⟨2, .data⟩ (by simp) rfl _ 65 rfl rfl
        have d66 : ac.tmps.getD 66 undef = .string RW := hD ⟨3, .data⟩ (by simp) rfl _ 66 rfl rfl
        clear hB hD hT
        go_simp
        exact hK _ _ hS (Below.refl _ _) rfl
      · intro ac w1 hS hT hB hD K hK
        rw [if_pos (by rfl)]
        have d67 : ac.tmps.getD 67 undef = .string (PS ++ RW) := hD ⟨4, .data⟩ (by simp) rfl _ 67 rfl rfl
        clear hB hD hT
        go_simp
        refine (HSU.out _).mono ?_
        rintro e w' ⟨rfl, rfl⟩
        exact hK _ _ hS (Below.refl _ _) rfl
      · intro ac w1 hS hT hB hD K hK
        rw [if_pos (by rfl)]
        have d68 : ac.tmps.getD 68 undef = .int .i64 (C) := hD ⟨5, .data⟩ (by simp) rfl _ 68 rfl rfl
        clear hB hD hT
        go_simp
        refine (rtextI _ _ _ (by decide) (by decide)).mono ?_
        rintro e w' ⟨rfl, hb⟩
        exact hK _ _ (bt hS hb) hb rfl
      · intro ac w1 hS hT hB hD K hK
        rw [if_pos (by rfl)]
        have d64 : ac.tmps.getD 64 undef = .string PR := hD ⟨1, .data⟩ (by simp) rfl _ 64 rfl rfl
        have d69 : ac.tmps.getD 69 undef = .string (txI C 2) := hD ⟨6, .data⟩ (by simp) rfl _ 69 rfl rfl
        clear hB hD hT
        go_simp
        exact hK _ _ hS (Below.refl _ _) rfl
      · intro ac w1 hS hT hB hD K hK
        rw [if_pos (by rfl)]
        have d8 : ac.tmps.getD 8 undef = .string RW := hB 8 (by kernel_rfl)
        clear hB hD hT
        go_simp
        exact hK _ _ hS (Below.refl _ _) rfl
      · intro ac w1 hS hT hB hD K hK
        rw [if_pos (by rfl)]
        have d71 : ac.tmps.getD 71 undef = .string RW := hD ⟨8, .data⟩ (by simp) rfl _ 71 rfl rfl
        clear hB hD hT
        go_simp
        exact hK _ _ hS (Below.refl _ _) rfl
      · intro ac w1 hS hT hB hD K hK
        rw [if_pos (by rfl)]
        have d70 : ac.tmps.getD 70 undef = .string (PR ++ txI C 2) := hD ⟨7, .data⟩ (by simp) rfl _ 70 rfl rfl
        have d72 : ac.tmps.getD 72 undef = .string PO := hD ⟨9, .data⟩ (by simp) rfl _ 72 rfl rfl
        clear hB hD hT
        go_simp
        exact hK _ _ hS (Below.refl _ _) rfl
      · intro ac w1 hS hT hB hD K hK
        rw [if_pos (by rfl)]
        have d73 : ac.tmps.getD 73 undef = .string EN := hD ⟨10, .data⟩ (by simp) rfl _ 73 rfl rfl
        clear hB hD hT
        go_simp
        exact hK _ _ hS (Below.refl _ _) rfl
    · intro ac w9 hS hT hdf hB hF
      skip
      have hfr : ac.tmps = #[.int .i64 (f), .int .i64 (t), .agg #[.int .i64 s.fr, .int .i64 s.dt, .int .i64 s.sq, .int .i64 s.ak, .int .i64 s.fl, .int .i64 s.wi, .int .i64 s.ur, .int .i64 s.o.m, .int .i64 s.o.c, .int .i64 s.o.t, .int .i64 s.o.ec, .bool s.o.sd, .bool s.o.ok, .bool s.o.sp, v, .string s.da], undef, undef, .pointer (some ⟨w.heap.size, 0, none⟩), (ac.tmps.getD 6 undef), .string E, .string RW, .string PS, .int .i64 (0), u11, u12, u13, u14, u15, u16, u17, u18, u19, u20, u21, u22, u23, u24, u25, u26, u27, u28, u29, u30, u31, u32, u33, u34, u35, u36, u37, u38, u39, u40, u41, u42, u43, u44, u45, u46, u47, u48, u49, u50, u51, u52, u53, u54, u55, u56, u57, u58, u59, u60, u61, u62, (ac.tmps.getD 63 undef), (ac.tmps.getD 64 undef), (ac.tmps.getD 65 undef), (ac.tmps.getD 66 undef), (ac.tmps.getD 67 undef), (ac.tmps.getD 68 undef), (ac.tmps.getD 69 undef), (ac.tmps.getD 70 undef), (ac.tmps.getD 71 undef), (ac.tmps.getD 72 undef), (ac.tmps.getD 73 undef)] := (frame_eq hT rfl hB).trans (by kernel_rfl)
      obtain ⟨T, df⟩ := ac
      have s6 : T.getD 6 undef = .string EN := hF 11 _ 6 rfl rfl
      have sdf : df = [] := hdf
      simp only at hfr
      clear hB hF hT hdf
      generalize T.getD 63 undef = y63 at *
      generalize T.getD 64 undef = y64 at *
      generalize T.getD 65 undef = y65 at *
      generalize T.getD 66 undef = y66 at *
      generalize T.getD 67 undef = y67 at *
      generalize T.getD 68 undef = y68 at *
      generalize T.getD 69 undef = y69 at *
      generalize T.getD 70 undef = y70 at *
      generalize T.getD 71 undef = y71 at *
      generalize T.getD 72 undef = y72 at *
      generalize T.getD 73 undef = y73 at *
      generalize T.getD 6 undef = y6 at *
      subst hfr s6 sdf
      go_wp2
      go_ret
      exact ⟨rfl, hS⟩
end Go.Proofs.YtecoknenkjgmjabDoor
