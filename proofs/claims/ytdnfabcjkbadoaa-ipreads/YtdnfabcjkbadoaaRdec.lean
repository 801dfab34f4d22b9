/- The contract of the document's Decode of IP packets: the packet that the bytes are; nothing that was there turns. -/
import Derived.Test.YtdnfabcjkbadoaaDec
import Derived.Test.YtdnfabcjkbadoaaChk
import Derived.Deep.RegionWith
namespace Go.Proofs.Ytdnfabcjkbadoaa
open Go.RowKit

theorem byS_num (s : ByteArray) (i j : Nat) (hj : j = i + 1) (h : i < s.size) : byS s i = numS (s.extract i j) := by
  subst hj
  have hl := len_toList s
  unfold numS
  rw [ext_toList, ← byS_is s i h, show i + 1 - i = 1 by omega]
  rw [List.drop_eq_getElem_cons (by omega : i < s.data.toList.length)]
  simp [numL]
  rfl
theorem undrew {a b : World} (h : Below a.drew.heap.size a.drew b) : Below a.heap.size a b := (Below.refl _ _).drew.trans h
theorem run_sl (s : ByteArray) (a b : Nat) (x : ByteArray) (hx : s.extract a b = x) (h : (b : Int) ≤ s.size) (hab : a ≤ b) : ∀ W, (Instr.slice 9 (.string s) (some (.int .i64 (a : Int))) (some (.int .i64 (b : Int))) none).run Try.prog W = .ok (.string x) W := fun W => by
  rw [run_slice_string_if W 9 s .i64 .i64 a b Try.underlying9, if_pos ⟨by omega, by omega⟩, if_pos ⟨by omega, by omega⟩, ← hx]; rfl
theorem run_slI (s : ByteArray) (a b : Int) (x : ByteArray) (hx : s.extract a.toNat b.toNat = x) (h : b ≤ s.size) (h0 : 0 ≤ a) (hab : a ≤ b) : ∀ W, (Instr.slice 9 (.string s) (some (.int .i64 a)) (some (.int .i64 b)) none).run Try.prog W = .ok (.string x) W := fun W => by
  rw [run_slice_string_if W 9 s .i64 .i64 a b Try.underlying9, if_pos ⟨by omega, by omega⟩, if_pos ⟨by omega, by omega⟩, ← hx]
theorem run_ix (s : ByteArray) (i : Nat) (x : Int) (h : (i : Int) < s.size) (hx : byS s i = x) : ∀ W, (Instr.index 9 (.string s) (.int .i64 (i : Int))).run Try.prog W = .ok (.int .u8 x) W := fun W => by
  rw [run_index_string W 9 s .i64 i Try.underlying9, dif_pos ⟨by omega, h⟩, ← hx, ← byS_is s i (by omega)]; rfl

set_option maxRecDepth 100000 in
set_option maxHeartbeats 1000000 in
theorem rdec_1 {s : ByteArray} (h : (s.size : Int) < 20 ∨ 20 ≤ (s.size : Int) ∧ (byS s 0 / 16 != 4) = true) (w : World) (hs : s.size ≤ 1125899906842624) :
    Calls Try.prog 19 #[.string s] w fun e w' => e = .returned (.tuple #[.agg #[.int .i64 0, .int .i64 0, .int .i64 0, .int .i64 0, .int .i64 0, .int .i64 0, .bool false, .bool false, .string ⟨#[]⟩, .string ⟨#[]⟩], .int .i64 50]) ∧ Below w.heap.size w w' := by
  have hs' : (s.size : Int) ≤ 1125899906842624 := by omega
  have hl := bel1 w (.cells #[.int .i64 0, .int .i64 0, .int .i64 0, .int .i64 0, .int .i64 0, .int .i64 0, .bool false, .bool false, .string ⟨#[]⟩, .string ⟨#[]⟩] 23)
  rcases h with h | ⟨h, q⟩
  · go_enter Try.func19, Try.ntmps19
    go_wp2
    exact bodyPost_ret (v := .tuple #[.agg #[.int .i64 0, .int .i64 0, .int .i64 0, .int .i64 0, .int .i64 0, .int .i64 0, .bool false, .bool false, .string ⟨#[]⟩, .string ⟨#[]⟩], .int .i64 50]) (by simp [results, Try.results19, go_sem]) rfl ⟨rfl, hl⟩
  · have e0 := byS_is s 0 (by omega)
    have q1 := byS_bd s 0
    go_enter Try.func19, Try.ntmps19
    go_wp2
    exact bodyPost_ret (v := .tuple #[.agg #[.int .i64 0, .int .i64 0, .int .i64 0, .int .i64 0, .int .i64 0, .int .i64 0, .bool false, .bool false, .string ⟨#[]⟩, .string ⟨#[]⟩], .int .i64 50]) (by simp [results, Try.results19, go_sem]) rfl ⟨rfl, hl⟩
set_option maxRecDepth 100000 in
set_option maxHeartbeats 1000000 in
theorem rdec_2 {s : ByteArray} (h20 : 20 ≤ (s.size : Int)) (h4 : (byS s 0 / 16 != 4) = false) (h : dH s < 20 ∨ 20 ≤ dH s ∧ (s.size : Int) < dH s ∨ (20 ≤ dH s ∧ dH s ≤ (s.size : Int)) ∧ (dL s < dH s ∨ dH s ≤ dL s ∧ (s.size : Int) < dL s)) (w : World) (hs : s.size ≤ 1125899906842624) :
    Calls Try.prog 19 #[.string s] w fun e w' => e = .returned (.tuple #[.agg #[.int .i64 0, .int .i64 0, .int .i64 0, .int .i64 0, .int .i64 0, .int .i64 0, .bool false, .bool false, .string ⟨#[]⟩, .string ⟨#[]⟩], .int .i64 50]) ∧ Below w.heap.size w w' := by
  have hs' : (s.size : Int) ≤ 1125899906842624 := by omega
  have hl := bel1 w (.cells #[.int .i64 0, .int .i64 0, .int .i64 0, .int .i64 0, .int .i64 0, .int .i64 0, .bool false, .bool false, .string ⟨#[]⟩, .string ⟨#[]⟩] 23)
  have e0 := byS_is s 0 (by omega)
  have q1 := byS_bd s 0
  have e2 : byS s 0 % 16 * 4 = dH s := rfl
  have e4 : numS (s.extract 2 4) = dL s := rfl
  have hz : (s.extract 2 4).size ≤ 6 := by rw [ByteArray.size_extract]; omega
  have q2 : 0 ≤ byS s 0 % 16 := by omega
  have q3 : byS s 0 % 16 ≤ 15 := by omega
  rcases h with h | ⟨h, g⟩ | ⟨⟨h, g⟩, k | ⟨k, g2⟩⟩
  all_goals
    go_enter Try.func19, Try.ntmps19
    go_wp2_with fail
    refine (num_any _ _ hz).mono ?_
    rintro e w1 ⟨rfl, rfl⟩
    go_wp2
    exact bodyPost_ret (v := .tuple #[.agg #[.int .i64 0, .int .i64 0, .int .i64 0, .int .i64 0, .int .i64 0, .int .i64 0, .bool false, .bool false, .string ⟨#[]⟩, .string ⟨#[]⟩], .int .i64 50]) (by simp [results, Try.results19, go_sem]) rfl ⟨rfl, hl⟩
theorem rwh_t {s : ByteArray} (h : sumS s = 0) (w : World) (hs : s.size ≤ maxLen) : Calls Try.prog 32 #[.string s] w fun e w' => e = .returned (.bool true) ∧ w' = w := by
  have := rwhole_any s w hs; rw [h] at this; exact this
theorem rwh_f {s : ByteArray} (h : ¬ sumS s = 0) (w : World) (hs : s.size ≤ maxLen) : Calls Try.prog 32 #[.string s] w fun e w' => e = .returned (.bool false) ∧ w' = w := by
  have := rwhole_any s w hs; rw [show (sumS s == 0) = false by simpa using h] at this; exact this
theorem hd_size' (s : ByteArray) : (headS' s).size ≤ maxLen := by have := hd_size s; unfold maxLen; omega
set_option maxRecDepth 100000 in
set_option maxHeartbeats 1000000 in
theorem rdec_3 {s : ByteArray} (h20 : 20 ≤ (s.size : Int)) (h4 : (byS s 0 / 16 != 4) = false) (hH : 20 ≤ dH s) (hL : dH s ≤ dL s) (hS : dL s ≤ (s.size : Int)) (hw : ¬ sumS (headS' s) = 0) (w : World) (hs : s.size ≤ 1125899906842624) :
    Calls Try.prog 19 #[.string s] w fun e w' => e = .returned (.tuple #[.agg #[.int .i64 0, .int .i64 0, .int .i64 0, .int .i64 0, .int .i64 0, .int .i64 0, .bool false, .bool false, .string ⟨#[]⟩, .string ⟨#[]⟩], .int .i64 20]) ∧ Below w.heap.size w w' := by
  have hs' : (s.size : Int) ≤ 1125899906842624 := by omega
  have hl := bel1 w (.cells #[.int .i64 0, .int .i64 0, .int .i64 0, .int .i64 0, .int .i64 0, .int .i64 0, .bool false, .bool false, .string ⟨#[]⟩, .string ⟨#[]⟩] 23)
  have e0 := byS_is s 0 (by omega)
  have q1 := byS_bd s 0
  have e2 : byS s 0 % 16 * 4 = dH s := rfl
  have e4 : numS (s.extract 2 4) = dL s := rfl
  have hz : (s.extract 2 4).size ≤ 6 := by rw [ByteArray.size_extract]; omega
  have q2 : 0 ≤ byS s 0 % 16 := by omega
  have q3 : byS s 0 % 16 ≤ 15 := by omega
  have x1 : s.extract 0 (dH s).toNat = headS' s := rfl
  have hHs : dH s ≤ (s.size : Int) := by omega
  have hH0 : 0 ≤ dH s := by omega
  go_enter Try.func19, Try.ntmps19
  go_wp2_with fail
  refine (num_any _ _ hz).mono ?_
  rintro e w1 ⟨rfl, rfl⟩
  go_wp2_with fail
  refine (rwh_f hw _ (hd_size' s)).mono ?_
  rintro e w1 ⟨rfl, rfl⟩
  go_wp2
  exact bodyPost_ret (v := .tuple #[.agg #[.int .i64 0, .int .i64 0, .int .i64 0, .int .i64 0, .int .i64 0, .int .i64 0, .bool false, .bool false, .string ⟨#[]⟩, .string ⟨#[]⟩], .int .i64 20]) (by simp [results, Try.results19, go_sem]) rfl ⟨rfl, hl⟩

end Go.Proofs.Ytdnfabcjkbadoaa
