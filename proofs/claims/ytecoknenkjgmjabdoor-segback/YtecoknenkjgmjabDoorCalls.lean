/- The contracts of the functions of package sum, and of the document's answer for layer 2, that make no memory: each returns just the values named here. -/
import Derived.Test.YtecoknenkjgmjabDoorRows
import Derived.Test.YtecoknenkjgmjabDoorPlain
import Derived.WalkKit
import Derived.WalkSpells
namespace Go.Proofs.YtecoknenkjgmjabDoor
open Go.RowKit
set_option maxRecDepth 100000

theorem ret_int {k : IntKind} {a b : Int} (h : a = b) : Ending.returned (.int k a) = .returned (.int k b) := by rw [h]
theorem ret_str {a b : ByteArray} (h : a = b) : Ending.returned (.string a) = .returned (.string b) := by rw [h]

theorem missing_any (n : Int) (w : World) (h0 : 0 ≤ n) (h1 : n ≤ 9223372036854775807) :
    Calls Tryd.prog 49 #[.int .i64 n] w fun e w' => e = .returned (.int .i64 (missV n)) ∧ w' = w := by
  have hA := and_low
  go_enter Tryd.func49, Tryd.ntmps49
  go_wp2
  go_loop [0] (fun t => ∃ m : Int, 0 ≤ m ∧ m ≤ 9223372036854775807 ∧ t = .int .i64 m ∧ Hid (foldV m = foldV n)) (fun t => (intOf t).toNat)
  case atStart => exact ⟨n, h0, h1, rfl, rfl⟩
  case round =>
    obtain ⟨m, hm0, hm1, rfl, HM⟩ := hrel
    by_cases hlt : 65535 < m
    · go_wp2
      go_round
      case rel => exact ⟨m / 65536 + m % 65536, by omega, by omega, rfl, (foldV_step m hlt).trans HM.out⟩
      case measure => simp [intOf]; omega
    · go_wp2
      go_ret
      exact ⟨ret_int (by unfold missV; rw [← HM.out, foldV_small m hm0 (by omega)]), rfl⟩

theorem rfold_any (n : Int) (w : World) (h0 : 0 ≤ n) (h1 : n ≤ 9223372036854775807) :
    Calls Tryd.prog 80 #[.int .i64 n] w fun e w' => e = .returned (.int .i64 (foldV n)) ∧ w' = w := by
  go_enter Tryd.func80, Tryd.ntmps80
  go_wp2
  go_loop [0] (fun t => ∃ m : Int, 0 ≤ m ∧ m ≤ 9223372036854775807 ∧ t = .int .i64 m ∧ Hid (foldV m = foldV n)) (fun t => (intOf t).toNat)
  case atStart => exact ⟨n, h0, h1, rfl, rfl⟩
  case round =>
    obtain ⟨m, hm0, hm1, rfl, HM⟩ := hrel
    by_cases hlt : 65535 < m
    · go_wp2
      go_round
      case rel => exact ⟨m / 65536 + m % 65536, by omega, by omega, rfl, (foldV_step m hlt).trans HM.out⟩
      case measure => simp [intOf]; omega
    · go_wp2
      go_ret
      exact ⟨ret_int (by rw [← HM.out, foldV_small m hm0 (by omega)]), rfl⟩

theorem rsum_any (s : ByteArray) (w : World) (hs : s.size ≤ maxLen) :
    Calls Tryd.prog 59 #[.string s] w fun e w' => e = .returned (.int .i64 (sumS s)) ∧ w' = w := by
  unfold maxLen at hs
  go_enter Tryd.func59, Tryd.ntmps59
  go_wp2
  go_loop [3, 4] (fun n i => ∃ k : Nat, k ≤ s.size ∧ i = .int .i64 k ∧ n = .int .i64 (foldV (ws true (s.data.toList.take k)))) (fun _ i => s.size - (intOf i).toNat)
  case atStart => exact ⟨0, Nat.zero_le _, rfl, rfl⟩
  case round =>
    obtain ⟨k, hk, rfl, rfl⟩ := hrel
    have hd := foldV_bd (ws true (s.data.toList.take k))
    have hw := (ws_bd true (s.data.toList.take k)).1
    by_cases hlt : k < s.size
    · have hts := take_snoc s k hlt
      have hlen : (s.data.toList.take k).length = k := by rw [List.length_take]; exact Nat.min_eq_left (Nat.le_of_lt hlt)
      have hb : (s[k].toNat : Int) < 256 := by have := s[k].toNat_lt; omega
      by_cases hp : k % 2 = 0
      · have HS : Hid (foldV (ws true (s.data.toList.take (k + 1))) = foldV (foldV (ws true (s.data.toList.take k)) + 256 * (s[k].toNat : Int))) := by
          show _ = _
          rw [hts, ws_snoc, hlen, if_pos (by simp [turnB, hp]), foldV_add _ _ hw (by omega)]
        have hpi : ((k : Int) % 2 == 0) = true := by simp; omega
        clear hts hlen hw
        generalize hF : foldV (ws true (s.data.toList.take k)) = F at *
        go_wp2_with (go_at_call 80; refine (rfold_any _ _ (by omega) (by omega)).mono ?_; rintro e w' ⟨rfl, rfl⟩)
        go_round
        case rel => exact ⟨k + 1, by omega, by go_num, by rw [HS.out]⟩
        case measure => simp [intOf]; omega
      · have HS : Hid (foldV (ws true (s.data.toList.take (k + 1))) = foldV (foldV (ws true (s.data.toList.take k)) + (s[k].toNat : Int))) := by
          show _ = _
          rw [hts, ws_snoc, hlen, if_neg (by simp [turnB, hp]), foldV_add _ _ hw (by omega)]
        have hpi : ((k : Int) % 2 == 0) = false := by simp; omega
        clear hts hlen hw
        generalize hF : foldV (ws true (s.data.toList.take k)) = F at *
        go_wp2_with (go_at_call 80; refine (rfold_any _ _ (by omega) (by omega)).mono ?_; rintro e w' ⟨rfl, rfl⟩)
        go_round
        case rel => exact ⟨k + 1, by omega, by go_num, by rw [HS.out]⟩
        case measure => simp [intOf]; omega
    · have hk' : k = s.size := by omega
      subst hk'
      go_wp2
      go_ret
      exact ⟨ret_int (by unfold sumS missV; rw [List.take_of_length_le (by simp)]), rfl⟩

theorem total_any (b off len cap : Nat) (ss : List ByteArray) (w : World) (hl : len ≤ ss.length) (hbig : len ≤ 9223372036854775807)
    (hc : ∀ j, j < len → w.cell? ⟨b, off + j, none⟩ = some (.string (ss.getD j ByteArray.empty)))
    (hs : (catS (ss.take len)).length ≤ 140737488355328) :
    Calls Tryd.prog 50 #[.slice (some ⟨b, off, none⟩) len cap] w fun e w' => e = .returned (.int .i64 (totS (ss.take len))) ∧ w' = w := by
  have HC : Hid (∀ j, j < len → w.cell? ⟨b, off + j, none⟩ = some (.string (ss.getD j ByteArray.empty))) := hc
  clear hc
  go_enter Tryd.func50, Tryd.ntmps50
  go_wp2
  go_loop [3, 4, 10] (fun n h i => ∃ k : Nat, k ≤ len ∧ i = .int .i64 k ∧ n = .int .i64 (ws true (catS (ss.take k))) ∧ h = .int .i64 (shV (catS (ss.take k)).length)) (fun _ _ i => len - (intOf i).toNat)
  case atStart => exact ⟨0, Nat.zero_le _, rfl, rfl, rfl⟩
  case round =>
    obtain ⟨k, hk, rfl, rfl, rfl⟩ := hrel
    by_cases hlt : k < len
    · have hcell := HC.out k hlt
      have hst := cat_step ss k len hlt hl
      have HU := upto_all ss k (by omega)
      obtain ⟨p, hp⟩ : ∃ p, p = ss.getD k ByteArray.empty := ⟨_, rfl⟩
      rw [← hp] at hcell hst HU
      clear hp
      have HU' : Hid (upto ss k p p.size = catS (ss.take (k + 1))) := HU
      clear HU
      have hpz : (p.size : Int) ≤ 140737488355328 := by omega
      go_wp2
      go_loop [3, 4, 16] (fun n h i => ∃ j : Nat, j ≤ p.size ∧ i = .int .i64 j ∧ n = .int .i64 (ws true (upto ss k p j)) ∧ h = .int .i64 (shV (upto ss k p j).length)) (fun _ _ i => p.size - (intOf i).toNat)
      case atStart => exact ⟨0, Nat.zero_le _, rfl, by rw [upto_zero], by rw [upto_zero]⟩
      case round =>
        obtain ⟨j, hj, rfl, rfl, rfl⟩ := hrel
        by_cases hjl : j < p.size
        · have hbd := ws_bd true (upto ss k p j)
          have hul := upto_len ss k p j hj
          have hsn := ws_snoc true (upto ss k p j) p[j]
          have hsl : (upto ss k p (j + 1)).length = (upto ss k p j).length + 1 := by rw [upto_succ ss k p j hjl]; simp
          rw [← upto_succ ss k p j hjl] at hsn
          rw [hul] at hbd
          have hpb : (p[j].toNat : Int) < 256 := by have := p[j].toNat_lt; omega
          rcases shV_cases (upto ss k p j).length with ⟨e1, e2, e3⟩ | ⟨e1, e2, e3⟩
          · rw [e3, if_pos rfl] at hsn
            rw [← hsl] at e2
            rw [e1]
            have H1 : Hid (ws true (upto ss k p (j + 1)) = ws true (upto ss k p j) + 256 * (p[j].toNat : Int)) := hsn
            have H2 : Hid (shV (upto ss k p (j + 1)).length = 0) := e2
            clear hsn e1 e2 e3 hsl hul
            generalize ws true (upto ss k p j) = F at *
            go_wp2
            go_round
            case rel => exact ⟨j + 1, by omega, by go_num, by rw [H1.out, Int.mul_comm]; try go_num, by rw [H2.out]⟩
            case measure => simp [intOf]; omega
          · rw [e3, if_neg (by simp)] at hsn
            rw [← hsl] at e2
            rw [e1]
            have H1 : Hid (ws true (upto ss k p (j + 1)) = ws true (upto ss k p j) + (p[j].toNat : Int)) := hsn
            have H2 : Hid (shV (upto ss k p (j + 1)).length = 8) := e2
            clear hsn e1 e2 e3 hsl hul
            generalize ws true (upto ss k p j) = F at *
            go_wp2
            go_round
            case rel => exact ⟨j + 1, by omega, by go_num, by rw [H1.out]; try go_num, by rw [H2.out]⟩
            case measure => simp [intOf]; omega
        · have hj' : j = p.size := by omega
          subst hj'
          rw [HU'.out]
          go_wp2
          go_round
          case rel => exact ⟨k + 1, by omega, by go_num, rfl, rfl⟩
          case measure => simp [intOf]; omega
    · have hk' : k = len := by omega
      subst hk'
      go_wp2
      go_ret
      exact ⟨rfl, rfl⟩
end Go.Proofs.YtecoknenkjgmjabDoor
