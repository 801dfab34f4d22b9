/- The contracts of the small calls, and of Put and Get of package sum and of the document: each returns just the values named here; nothing that was there turns. -/
import Derived.Test.YtgjkplkghoeeeaaText
namespace Go.Proofs.Ytgjkplkghoeeeaa
open Go.RowKit

theorem bt {a b c : World} (h : Below a.heap.size a b) (k : Below b.heap.size b c) : Below a.heap.size a c := h.trans (k.mono h.size)

theorem out_any (n a b : Int) (w : World) :
    Calls Try.prog 40 #[.int .i64 n, .int .i64 a, .int .i64 b] w fun e w' => e = .returned (.bool (outB n a b)) ∧ w' = w := by
  unfold outB
  by_cases h : n < a
  · go_enter Try.func40, Try.ntmps40
    go_wp2
    go_ret
    exact ⟨by simp [h], rfl⟩
  · go_enter Try.func40, Try.ntmps40
    go_wp2
    go_ret
    exact ⟨by simp; omega, rfl⟩

theorem lies_any (s : ByteArray) (off k : Int) (w : World) (hs : s.size ≤ maxLen) (k0 : 0 ≤ k) (k1 : k ≤ 9) :
    Calls Try.prog 43 #[.string s, .int .i64 off, .int .i64 k] w fun e w' => e = .returned (.bool (liesB s.size off k)) ∧ w' = w := by
  unfold maxLen at hs
  unfold liesB
  by_cases h : 0 ≤ off
  · go_enter Try.func43, Try.ntmps43
    go_wp2
    go_ret
    exact ⟨by simp [h], rfl⟩
  · go_enter Try.func43, Try.ntmps43
    go_wp2
    go_ret
    exact ⟨by simp; omega, rfl⟩

theorem among_any (n m : Int) (w : World) (m0 : 0 < m) (m1 : m ≤ 1000000000000) :
    Calls Try.prog 26 #[.int .i64 n, .int .i64 m] w fun e w' => e = .returned (.int .i64 (n % m)) ∧ w' = w := by
  obtain ⟨h, h1, h2⟩ := tmod_round n m m0
  rw [← h]; clear h
  go_enter Try.func26, Try.ntmps26
  go_wp2
  go_ret
  exact ⟨rfl, rfl⟩

theorem num_any (s : ByteArray) (w : World) (hs : s.size ≤ 6) :
    Calls Try.prog 38 #[.string s] w fun e w' => e = .returned (.int .i64 (numS s)) ∧ w' = w := by
  go_enter Try.func38, Try.ntmps38
  go_wp2
  go_loop [3, 4] (fun n i => ∃ k : Nat, k ≤ s.size ∧ i = .int .i64 k ∧ n = .int .i64 (numL (s.data.toList.take k))) (fun _ i => s.size - (intOf i).toNat)
  case atStart => exact ⟨0, Nat.zero_le _, rfl, rfl⟩
  case round =>
    obtain ⟨k, hk, rfl, rfl⟩ := hrel
    by_cases hlt : k < s.size
    · have hd := (numL_bd (s.data.toList.take k)).1
      have hd2 := numL_small (s.data.toList.take k) (by rw [List.length_take]; omega)
      have hts := take_snoc s k hlt
      have hb : (s[k].toNat : Int) < 256 := by have := s[k].toNat_lt; omega
      have HS : Hid (numL (s.data.toList.take (k + 1)) = numL (s.data.toList.take k) * 256 + (s[k].toNat : Int)) := by
        show _ = _
        rw [hts, numL_snoc]
      clear hts
      generalize numL (s.data.toList.take k) = F at *
      go_wp2
      go_round
      case rel => exact ⟨k + 1, by omega, by go_num, by rw [HS.out]⟩
      case measure => simp [intOf]; omega
    · have hk' : k = s.size := by omega
      subst hk'
      rw [take_all]
      go_wp2
      go_ret
      exact ⟨rfl, rfl⟩

theorem six {k : Int} (h1 : 1 ≤ k) (h2 : k ≤ 6) : k = 1 ∨ k = 2 ∨ k = 3 ∨ k = 4 ∨ k = 5 ∨ k = 6 := by omega

theorem pput_any (n k : Int) (w : World) :
    Calls Try.prog 34 #[.int .i64 n, .int .i64 k] w fun e w' => e = .returned (.tuple #[.string (putV n k), .int .i64 (codeB (putB n k))]) ∧ Below w.heap.size w w' := by
  by_cases hk : 1 ≤ k ∧ k ≤ 6
  · have ho := outB_f hk
    obtain ⟨hk1, hk2⟩ := hk
    by_cases h0 : n < 0
    · have hp : putB n k = false := putB_f (by omega)
      unfold putV; rw [hp, if_neg (by simp)]
      clear hp
      have ho2 := fun b => outB_t (n := n) (a := 0) (b := b) (Or.inl h0)
      obtain rfl | rfl | rfl | rfl | rfl | rfl := six hk1 hk2
      all_goals
        go_enter Try.func34, Try.ntmps34
        go_wp2_with (first | (go_at_call 40; refine (out_any _ _ _ _).mono ?_; rintro e w' ⟨rfl, rfl⟩))
        go_ret2
        exact ⟨rfl, Below.refl _ _⟩
    · by_cases hn : n < 2 ^ (8 * k.toNat)
      · have hp := putB_t ⟨hk1, hk2, by omega, hn⟩
        unfold putV; rw [hp, if_pos rfl]
        clear hp
        obtain rfl | rfl | rfl | rfl | rfl | rfl := six hk1 hk2
        all_goals
          simp at hn
          first
            | have ho2 : outB n 0 255 = false := outB_f ⟨by omega, by omega⟩
            | have ho2 : outB n 0 65535 = false := outB_f ⟨by omega, by omega⟩
            | have ho2 : outB n 0 16777215 = false := outB_f ⟨by omega, by omega⟩
            | have ho2 : outB n 0 4294967295 = false := outB_f ⟨by omega, by omega⟩
            | have ho2 : outB n 0 1099511627775 = false := outB_f ⟨by omega, by omega⟩
            | have ho2 : outB n 0 281474976710655 = false := outB_f ⟨by omega, by omega⟩
          go_enter Try.func34, Try.ntmps34
          go_wp2_with (first | (go_at_call 40; refine (out_any _ _ _ _).mono ?_; rintro e w' ⟨rfl, rfl⟩) | (go_at_call 41; refine (put_any _ _ _ (by decide) (by decide)).mono ?_; rintro e w' ⟨rfl, hb⟩))
          go_ret2
          exact ⟨rfl, hb⟩
      · have hp : putB n k = false := putB_f (fun h => hn h.2.2.2)
        unfold putV; rw [hp, if_neg (by simp)]
        clear hp
        obtain rfl | rfl | rfl | rfl | rfl | rfl := six hk1 hk2
        all_goals
          simp at hn
          first
            | have ho2 : outB n 0 281474976710655 = true := outB_t (by omega)
            | have ho2 : outB n 0 1099511627775 = true := outB_t (by omega)
            | have ho2 : outB n 0 4294967295 = true := outB_t (by omega)
            | have ho2 : outB n 0 16777215 = true := outB_t (by omega)
            | have ho2 : outB n 0 65535 = true := outB_t (by omega)
            | have ho2 : outB n 0 255 = true := outB_t (by omega)
          go_enter Try.func34, Try.ntmps34
          go_wp2_with (first | (go_at_call 40; refine (out_any _ _ _ _).mono ?_; rintro e w' ⟨rfl, rfl⟩))
          go_ret2
          exact ⟨rfl, Below.refl _ _⟩
  · have ho : outB k 1 6 = true := outB_t (by omega)
    have hp : putB n k = false := putB_f (by omega)
    unfold putV; rw [hp, if_neg (by simp)]
    clear hp
    go_enter Try.func34, Try.ntmps34
    go_wp2_with (first | (go_at_call 40; refine (out_any _ _ _ _).mono ?_; rintro e w' ⟨rfl, rfl⟩))
    go_ret2
    exact ⟨rfl, Below.refl _ _⟩

theorem get_loop_cells (w : World) (x : ByteArray) (c : Nat) : ∀ j (h : j < x.size), (w.drew.alloc (.cells (bytesRow x c) 5 ((bytesRow x c).size, (bytesRow x c).size + 1))).cell? ⟨w.heap.size, j, none⟩ = some (.int .u8 (x[j].toNat : Int)) := by
  intro j h
  have := World.cell?_alloc_mark w.drew (bytesRow x c) 5 ((bytesRow x c).size, (bytesRow x c).size + 1) j
  rw [bytesRow_at x c j h] at this
  exact this

theorem get_any (s : ByteArray) (off k : Int) (w : World) (hs : s.size ≤ maxLen) :
    Calls Try.prog 37 #[.string s, .int .i64 off, .int .i64 k] w fun e w' => e = .returned (.tuple #[.int .i64 (getV s off k), .int .i64 (codeB (getB s.size off k))]) ∧ Below w.heap.size w w' := by
  have hsm := hs
  unfold maxLen at hs
  unfold getV
  by_cases hk : 1 ≤ k ∧ k ≤ 6
  · have ho := outB_f hk
    obtain ⟨hk1, hk2⟩ := hk
    by_cases hb : 0 ≤ off ∧ off ≤ (s.size : Int) - k
    · have hp := getB_t ⟨hk1, hk2, hb⟩
      rw [hp, if_pos rfl]
      clear hp
      have hl : liesB s.size off k = true := decide_eq_true hb
      obtain ⟨h0, h1⟩ := hb
      have hz : (s.extract off.toNat (off + k).toNat).size ≤ 6 := by rw [ByteArray.size_extract]; omega
      have hcv := fun W => run_bytes_of_string (P := Try.prog) W 9 59 5 (s.extract off.toNat (off + k).toNat) Try.underlying9 Try.underlying59 Try.underlying5
      go_enter Try.func37, Try.ntmps37
      go_wp2_with (first | (go_at_call 40; refine (out_any _ _ _ _).mono ?_; rintro e w' ⟨rfl, rfl⟩) | (go_at_call 43; refine (lies_any _ _ _ _ hsm (by omega) (by omega)).mono ?_; rintro e w' ⟨rfl, rfl⟩))
      rw [show min (off + k).toNat s.size - off.toNat = (s.extract off.toNat (off + k).toNat).size from (by rw [ByteArray.size_extract])]
      clear hcv hl ho
      generalize hx : s.extract off.toNat (off + k).toNat = x at *
      have HX : Hid (s.extract off.toNat (off + k).toNat = x) := hx
      clear hx
      have hcells := get_loop_cells w' x (grownCap w' x.size 0 5)
      have hbel : Below w'.heap.size w' (w'.drew.alloc (.cells (bytesRow x (grownCap w' x.size 0 5)) 5 ((bytesRow x (grownCap w' x.size 0 5)).size, (bytesRow x (grownCap w' x.size 0 5)).size + 1))) := (Below.refl _ _).drew.alloc (Nat.le_refl _) _
      obtain ⟨W1, hW1⟩ : ∃ W, W = (w'.alloc (.cells (bytesRow x (grownCap w' x.size 0 5)) 5 ((bytesRow x (grownCap w' x.size 0 5)).size, (bytesRow x (grownCap w' x.size 0 5)).size + 1))).drew := ⟨_, rfl⟩
      rw [← hW1]
      have hcells' : ∀ j (h : j < x.size), W1.cell? ⟨w'.heap.size, j, none⟩ = some (.int .u8 (x[j].toNat : Int)) := by rw [hW1]; exact hcells
      have hbel' : Below w'.heap.size w' W1 := by rw [hW1]; exact hbel
      have HC : Hid (∀ j (h : j < x.size), W1.cell? ⟨w'.heap.size, j, none⟩ = some (.int .u8 (x[j].toNat : Int))) := hcells'
      clear hcells hcells' hW1 hbel
      generalize grownCap w' x.size 0 5 = c
      go_loop [8, 28] (fun n i => ∃ k : Nat, k ≤ x.size ∧ i = .int .i64 k ∧ n = .int .i64 (numL (x.data.toList.take k))) (fun _ i => x.size - (intOf i).toNat)
      case atStart => exact ⟨0, Nat.zero_le _, rfl, rfl⟩
      case round =>
        obtain ⟨j, hj, rfl, rfl⟩ := hrel
        by_cases hlt : j < x.size
        · have hd := (numL_bd (x.data.toList.take j)).1
          have hd2 := numL_small (x.data.toList.take j) (by rw [List.length_take]; omega)
          have hts := take_snoc x j hlt
          have hxb : (x[j].toNat : Int) < 256 := by have := x[j].toNat_lt; omega
          have HS : Hid (numL (x.data.toList.take (j + 1)) = numL (x.data.toList.take j) * 256 + (x[j].toNat : Int)) := by
            show _ = _
            rw [hts, numL_snoc]
          clear hts
          have hcj := HC.out j hlt
          have hor := or_low (numL (x.data.toList.take j)) (x[j].toNat : Int) hd hd2 (by omega) hxb
          generalize numL (x.data.toList.take j) = F at *
          go_wp2
          go_round
          case rel => exact ⟨j + 1, by omega, by go_num, by rw [HS.out]⟩
          case measure => simp [intOf]; omega
        · have hj' : j = x.size := by omega
          subst hj'
          rw [take_all]
          go_wp2
          go_ret2
          exact ⟨by rw [HX.out]; rfl, hbel'⟩
    · have hp : getB s.size off k = false := getB_f (by omega)
      rw [hp, if_neg (by simp)]
      clear hp
      have hl : liesB s.size off k = false := decide_eq_false hb
      go_enter Try.func37, Try.ntmps37
      go_wp2_with (first | (go_at_call 40; refine (out_any _ _ _ _).mono ?_; rintro e w' ⟨rfl, rfl⟩) | (go_at_call 43; refine (lies_any _ _ _ _ hsm (by omega) (by omega)).mono ?_; rintro e w' ⟨rfl, rfl⟩))
      go_ret2
      exact ⟨rfl, Below.refl _ _⟩
  · have ho : outB k 1 6 = true := outB_t (by omega)
    have hp : getB s.size off k = false := getB_f (by omega)
    rw [hp, if_neg (by simp)]
    clear hp
    go_enter Try.func37, Try.ntmps37
    go_wp2_with (first | (go_at_call 40; refine (out_any _ _ _ _).mono ?_; rintro e w' ⟨rfl, rfl⟩))
    go_ret2
    exact ⟨rfl, Below.refl _ _⟩
end Go.Proofs.Ytgjkplkghoeeeaa
