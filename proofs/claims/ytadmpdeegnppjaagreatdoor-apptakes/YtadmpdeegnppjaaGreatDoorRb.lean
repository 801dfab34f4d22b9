/- The document's side: cut, Name, Digits. -/
import Derived.Test.YtadmpdeegnppjaaGreatDoorRa
namespace Go.Proofs.YtadmpdeegnppjaaGreatDoor
open Go.RowKit Go.Maps Go.Shelf Go.Lib
set_option maxRecDepth 100000
set_option linter.unusedVariables false
set_option linter.unusedSimpArgs false


def natOf : Value → Nat
  | .int _ i => i.toNat
  | _ => 0
theorem ixB (s : By) (i : Nat) (x : UInt8) (h : s[i]? = some x) : ∀ W, (Instr.index 9 (.string (B s)) (.int .i64 (i : Int))).run Tryz.prog W = .ok (.int .u8 (x.toNat : Int)) W := fun W => by
  obtain ⟨hi, e⟩ := List.getElem?_eq_some_iff.1 h
  have hz : i < (B s).size := by rw [B_size]; exact hi
  rw [run_index_string W 9 (B s) .i64 i Tryz.underlying9, dif_pos ⟨by omega, by omega⟩]
  have : (B s)[(i : Int).toNat]'(by omega) = x := by
    rw [← e]
    exact B_get s i hz
  rw [this]
theorem B_ext (s : By) (i j : Nat) : (B s).extract i j = B ((s.take j).drop i) := by
  apply ByteArray.ext
  simp only [B, ByteArray.data_extract]
  apply Array.ext'
  rw [Array.toList_extract]
  simp only [List.extract_eq_take_drop, List.drop_take]
theorem slF (s : By) (a : Nat) (h : a ≤ s.length) : ∀ W, (Instr.slice 9 (.string (B s)) (some (.int .i64 (a : Int))) none none).run Tryz.prog W = .ok (.string (B (s.drop a))) W := fun W => by
  rw [run_slice_string_from_if W 9 (B s) .i64 a Tryz.underlying9, if_pos ⟨by omega, by rw [B_size]; omega⟩]
  rw [show ((a : Int).toNat) = a from rfl, B_ext, B_size, List.take_length]
theorem slT (s : By) (a : Nat) (h : a ≤ s.length) : ∀ W, (Instr.slice 9 (.string (B s)) none (some (.int .i64 (a : Int))) none).run Tryz.prog W = .ok (.string (B (s.take a))) W := fun W => by
  rw [run_slice_string_to_if W 9 (B s) .i64 a Tryz.underlying9, if_pos ⟨by omega, by rw [B_size]; omega⟩]
  rw [show ((a : Int).toNat) = a from rfl, B_ext, List.drop_zero]
theorem take_snoc {s : By} {i : Nat} {x : UInt8} (h : s[i]? = some x) : s.take (i + 1) = s.take i ++ [x] := by
  rw [List.take_add_one, h]; rfl
theorem split_at {s : By} {i : Nat} {x : UInt8} (h : s[i]? = some x) : s = s.take i ++ x :: s.drop (i + 1) := by
  obtain ⟨hi, e⟩ := List.getElem?_eq_some_iff.1 h
  rw [← e, ← List.drop_eq_getElem_cons hi, List.take_append_drop]
set_option maxHeartbeats 1000000 in
theorem rcut_any (s : By) (w : World) (hs : s.length ≤ 1000000) : Calls Tryz.prog 33 #[.string (B s)] w fun e w' => e = .returned (.tuple #[.string (B (cutC 32 s).1), .string (B (cutC 32 s).2.1), .bool (cutC 32 s).2.2]) ∧ Below w.heap.size w w' := by
  have HS : Hid ((B s).size = s.length) := B_size s
  have hz : (B s).size ≤ 1000000 := by rw [B_size]; exact hs
  obtain ⟨R, hR⟩ : ∃ R, R = cutC 32 s := ⟨_, rfl⟩
  rw [← hR]
  have HR : Hid _ := hR
  clear hR
  go_enter Tryz.func33, Tryz.ntmps33
  go_wp2
  go_loopw [5] (fun x wr => ∃ i : Nat, x = .int .i64 (i : Int) ∧ Below w.heap.size w wr ∧ (∀ b ∈ s.take i, b ≠ 32) ∧ i ≤ s.length) (fun x wr => (B s).size - natOf x)
  case atStart => exact ⟨0, rfl, Below.refl _ _, (by intro b hb; simp at hb), Nat.zero_le _⟩
  case round =>
    obtain ⟨i, rfl, hbw, hno, hle⟩ := hrel
    by_cases hp : i < s.length
    · obtain ⟨x, hx⟩ : ∃ x, s[i]? = some x := ⟨_, List.getElem?_eq_getElem hp⟩
      have hp' : (i : Int) < ((B s).size : Int) := by rw [B_size]; omega
      have hix := ixB s i x hx
      have hf := slF s (i + 1) hp
      have ht := slT s i (Nat.le_of_lt hp)
      have hi1 : ((i + 1 : Nat) : Int) = (i : Int) + 1 := by omega
      rw [hi1] at hf
      by_cases h32 : x = 32
      · have hc : R = (s.take i, s.drop (i + 1), true) := by
          rw [HR.out]
          conv => lhs; rw [split_at hx, h32]
          exact cut_of 32 _ _ hno
        have h32' : (x.toNat : Int) = 32 := by rw [h32]; rfl
        clear HR
        subst hc
        have HB : Hid _ := hbw
        clear hno hi1 hbw hx hle
        go_wp2
        go_region
        all_goals
          go_wp2
          go_ret3
          exact ⟨rfl, Below.drew HB.out⟩
      · have h32' : ¬ (x.toNat : Int) = 32 := fun e => h32 (by
          apply UInt8.toNat_inj.1
          have : x.toNat = 32 := by omega
          rw [this]; rfl)
        have HN : Hid (∀ b ∈ s.take (i + 1), b ≠ 32) := by
          intro b hb
          rw [take_snoc hx] at hb
          rcases List.mem_append.1 hb with hb | hb
          · exact hno b hb
          · rw [List.mem_singleton.1 hb]; exact h32
        clear hno h32
        go_wp2
        go_roundw
        case rel => exact ⟨i + 1, by rw [hi1], hbw, HN.out, hp⟩
        case measure => simp only [natOf]; omega
    · have hp' : ¬ (i : Int) < ((B s).size : Int) := by rw [B_size]; omega
      have hc : R = (s, [], false) := HR.out.trans <| cut_no 32 s (fun b hb => hno b (by rw [List.take_of_length_le (by omega)]; exact hb))
      clear HR
      subst hc
      clear hno
      go_wp2
      go_ret3
      exact ⟨rfl, hbw⟩
set_option maxHeartbeats 1000000 in
theorem rname_any (s : By) (w : World) (hs : s.length ≤ 1000000) : Calls Tryz.prog 34 #[.string (B s)] w fun e w' => e = .returned (.bool (okName s)) ∧ Below w.heap.size w w' := by
  by_cases h0 : s = []
  · subst h0
    have q : ((B []).toList == ([] : By)) = true := by rw [B_tl]; rfl
    go_enter Tryz.func34, Tryz.ntmps34
    go_wp2
    go_ret
    exact ⟨rfl, Below.refl _ _⟩
  have q0 : ((B s).toList == ([] : By)) = false := by rw [B_tl]; exact beq_eq_false_iff_ne.2 h0
  by_cases h1 : s.length ≤ 32
  · rw [okN_all h0 h1]
    have hz : ¬ (32 : Int) < ((B s).size : Int) := by rw [B_size]; omega
    have hz2 : (B s).size ≤ 1000000 := by rw [B_size]; exact hs
    have HS : Hid ((B s).size = s.length) := B_size s
    have H0 : Hid (s ≠ []) := h0
    clear h0
    go_enter Tryz.func34, Tryz.ntmps34
    go_wp2
    go_loopw [3] (fun x wr => ∃ i : Nat, x = .int .i64 (i : Int) ∧ Below w.heap.size w wr ∧ (s.take i).all okByte = true ∧ i ≤ s.length) (fun x wr => (B s).size - natOf x)
    case atStart => exact ⟨0, rfl, Below.refl _ _, rfl, Nat.zero_le _⟩
    case round =>
      obtain ⟨i, rfl, hbw, hok, hle⟩ := hrel
      have hi1 : ((i + 1 : Nat) : Int) = (i : Int) + 1 := by omega
      by_cases hp : i < s.length
      · obtain ⟨x, hx⟩ : ∃ x, s[i]? = some x := ⟨_, List.getElem?_eq_getElem hp⟩
        have hp' : (i : Int) < ((B s).size : Int) := by rw [B_size]; omega
        have hix := ixB s i x hx
        have HA : Hid ((s.take (i + 1)).all okByte = okByte x) := by
          show (s.take (i + 1)).all okByte = okByte x
          rw [take_snoc hx, List.all_append, hok]
          simp
        clear hx hok
        by_cases hk : okByte x = true
        · have hk' := hk
          unfold okByte at hk'
          simp only [Bool.and_eq_true, decide_eq_true_eq] at hk'
          obtain ⟨hk1, hk2⟩ := hk'
          have hk1' : ¬ (x.toNat : Int) ≤ 32 := by omega
          have hk2' : ¬ (127 : Int) ≤ (x.toNat : Int) := by omega
          go_wp2
          go_roundw
          case rel => exact ⟨i + 1, by rw [hi1], hbw, by rw [HA.out]; exact hk, hp⟩
          case measure => simp only [natOf]; omega
        · have hres : s.all okByte = false := by
            rw [← List.take_append_drop (i + 1) s, List.all_append, HA.out]
            simp [hk]
          have HR : Hid _ := hres
          clear hres
          by_cases hk1 : x.toNat ≤ 32
          · have hk1' : (x.toNat : Int) ≤ 32 := by omega
            go_wp2
            go_ret
            exact ⟨congrArg (fun x => Ending.returned (Value.bool x)) HR.out.symm, hbw⟩
          · have hk1' : ¬ (x.toNat : Int) ≤ 32 := by omega
            have hk2 : 127 ≤ x.toNat := by
              unfold okByte at hk
              simp only [Bool.and_eq_true, decide_eq_true_eq] at hk
              omega
            have hk2' : (127 : Int) ≤ (x.toNat : Int) := by omega
            go_wp2
            go_ret
            exact ⟨congrArg (fun x => Ending.returned (Value.bool x)) HR.out.symm, hbw⟩
      · have hp' : ¬ (i : Int) < ((B s).size : Int) := by rw [B_size]; omega
        have hres : s.all okByte = true := by
          rw [List.take_of_length_le (by omega)] at hok
          exact hok
        have HR : Hid _ := hres
        clear hres
        go_wp2
        go_ret
        exact ⟨congrArg (fun x => Ending.returned (Value.bool x)) HR.out.symm, hbw⟩
  · rw [okN_long h1]
    have hz : (32 : Int) < ((B s).size : Int) := by rw [B_size]; omega
    go_enter Tryz.func34, Tryz.ntmps34
    go_wp2
    go_ret
    exact ⟨rfl, Below.refl _ _⟩
end Go.Proofs.YtadmpdeegnppjaaGreatDoor
