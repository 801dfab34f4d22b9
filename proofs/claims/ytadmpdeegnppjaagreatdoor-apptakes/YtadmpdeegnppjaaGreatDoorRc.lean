/- The document's side: Digits, whole. -/
import Derived.Test.YtadmpdeegnppjaaGreatDoorRb
namespace Go.Proofs.YtadmpdeegnppjaaGreatDoor
open Go.RowKit Go.Maps Go.Shelf Go.Lib
set_option maxRecDepth 100000
set_option linter.unusedVariables false
set_option linter.unusedSimpArgs false


theorem B_one (x : UInt8) : (⟨#[x]⟩ : ByteArray) = B [x] := rfl
theorem run_one (W : World) (g : Nat) (i : Int) (x : UInt8) (hx : (x.toNat : Int) = i) (hc : W.cell? ⟨g, 0, none⟩ = some (.int .u8 i)) : (convert 41 9 (.slice (some ⟨g, 0, none⟩) 1 1)).run Tryz.prog W = .ok (.string (B [x])) W := by
  have := run_convert_bytes_back (P := Tryz.prog) W 41 9 5 ⟨g, 0, none⟩ 1 [x] Tryz.underlying41 Tryz.underlying5 Tryz.underlying9 (fun j hj => by
    have : j = 0 := by simpa using hj
    subst this
    rw [Addr.add_mid]
    simpa [hx] using hc)
  exact this
/-- The digit of a number below ten. -/
def dgt (d : Nat) : UInt8 := UInt8.ofNat (48 + d)
theorem dig_nat {d : Nat} (h : d < 10) : (dgt d).toNat = 48 + d := by unfold dgt; rw [UInt8.toNat_ofNat']; omega
/-- Where the loop of Digits stands: n0's digits, those still to come, those that are there. -/
def DG (n0 n : Nat) (s : By) : Prop := (10 ≤ n → Go.Lib.decDigits n0 = Go.Lib.decDigits (n / 10) ++ s) ∧ (n < 10 → s = Go.Lib.decDigits n0)
theorem DG.start (n : Nat) : DG n n [dgt (n % 10)] := by
  constructor
  · intro h
    rw [Go.Lib.decDigits, dif_neg (by omega)]
    rfl
  · intro h
    rw [Go.Lib.decDigits_one h, Nat.mod_eq_of_lt h]
    rfl
theorem DG.step {n0 n : Nat} {s : By} (h : DG n0 n s) (hn : 10 ≤ n) : DG n0 (n / 10) (dgt (n / 10 % 10) :: s) := by
  have e := h.1 hn
  constructor
  · intro h2
    rw [e]
    conv => lhs; rw [Go.Lib.decDigits, dif_neg (by omega)]
    simp [dgt]
  · intro h2
    rw [e, Go.Lib.decDigits_one h2, Nat.mod_eq_of_lt h2]
    rfl

theorem run_dig (d : Nat) (hd : d < 10) (i : Int) (hi : i = 48 + (d : Int)) (W : World) : (convert 41 9 (.slice (some ⟨W.heap.size, 0, none⟩) 1 1)).run Tryz.prog (W.alloc (.cells #[.int .u8 i] 5)) = .ok (.string (B [dgt d])) (W.alloc (.cells #[.int .u8 i] 5)) :=
  run_one _ _ i _ (by rw [hi, dig_nat hd]; omega) (by simp [World.cell?_alloc_new])
theorem DG.len {n0 n : Nat} {s : By} (h : DG n0 n s) (hn : n0 < 1000000000) : s.length ≤ 9 := by
  have hl := dec_len hn
  by_cases h2 : n < 10
  · rw [h.2 h2]; exact hl
  · have := h.1 (by omega)
    rw [this, List.length_append] at hl
    omega
set_option maxHeartbeats 1000000 in
theorem dig_pos (n : Nat) (w : World) (hn : n < 1000000000) : Calls Tryz.prog 32 #[.int .i64 (n : Int)] w fun e w' => e = .returned (.string (B (Go.Lib.decDigits n))) ∧ Below w.heap.size w w' := by
  have h0 : ¬ (n : Int) < 0 := by omega
  have hm0 : (0 : Int) ≤ (n : Int) % 10 := by omega
  have hm1 : (n : Int) % 10 < 10 := by omega
  have HD : Hid (DG n n [dgt (n % 10)]) := DG.start n
  have hcv := run_dig (n % 10) (by omega) (48 + (n : Int) % 10) (by omega)
  have HN : Hid (n < 1000000000) := hn
  go_enter Tryz.func32, Tryz.ntmps32
  go_wp2
  clear hcv hm0 hm1 h0
  go_loopw [0, 3] (fun x y wr => ∃ (k : Nat) (s : By), x = .int .i64 (k : Int) ∧ y = .string (B s) ∧ Below w.heap.size w wr ∧ DG n k s ∧ k ≤ n) (fun x y wr => natOf x)
  case atStart => exact ⟨n, _, rfl, rfl, bel1 _ _, HD.out, Nat.le_refl _⟩
  case round =>
    obtain ⟨k, s, rfl, rfl, hbw, hdg, hle⟩ := hrel
    have hsl := hdg.len HN.out
    have hsz : (B s).size ≤ 9 := by rw [B_size]; exact hsl
    by_cases hk : 10 ≤ k
    · have hk' : (10 : Int) ≤ (k : Int) := by omega
      have hm0 : (0 : Int) ≤ (k : Int) / 10 % 10 := by omega
      have hm1 : (k : Int) / 10 % 10 < 10 := by omega
      have hm2 : (k : Int) / 10 < 1000000000 := by omega
      have hm3 : (0 : Int) ≤ (k : Int) / 10 := by omega
      have hcv := run_dig (k / 10 % 10) (by omega) (48 + (k : Int) / 10 % 10) (by omega)
      have HG : Hid (DG n (k / 10) (dgt (k / 10 % 10) :: s)) := hdg.step hk
      have HA : Hid (B [dgt (k / 10 % 10)] ++ B s = B (dgt (k / 10 % 10) :: s)) := B_app _ _
      have hz1 : (B [dgt (k / 10 % 10)]).size ≤ 1 := by rw [B_size]; simp
      have HK : Hid (((k / 10 : Nat) : Int) = (k : Int) / 10) := by show _ = _; omega
      have HB : Hid _ := hbw
      clear hdg
      go_wp2
      trace_state
      go_roundw
      case rel => exact ⟨k / 10, _, congrArg _ HK.out.symm, congrArg _ HA.out, bt HB.out (bel1 _ _), HG.out, by omega⟩
      case measure => simp only [natOf]; omega
    · have hk' : ¬ (10 : Int) ≤ (k : Int) := by omega
      have hs := hdg.2 (by omega)
      subst hs
      go_wp2
      go_ret
      exact ⟨rfl, hbw⟩
theorem rdigits_any (n : Int) (w : World) (h0 : -1000000000 < n) (h1 : n < 1000000000) : Calls Tryz.prog 32 #[.int .i64 n] w fun e w' => e = .returned (.string (B (Go.Lib.itoa n))) ∧ Below w.heap.size w w' := by
  by_cases hn : n < 0
  · have hd := fun W => dig_pos n.natAbs W (by omega)
    have he : ((n.natAbs : Nat) : Int) = -n := by omega
    rw [he] at hd
    have hit : Hid (B [45] ++ B (Go.Lib.decDigits n.natAbs) = B (Go.Lib.itoa n)) := by
      show _ = _
      rw [B_app]
      unfold Go.Lib.itoa
      rw [if_pos hn]
      rfl
    have hz : (B (Go.Lib.decDigits n.natAbs)).size ≤ 9 := by rw [B_size]; exact dec_len (by omega)
    clear he
    generalize Go.Lib.decDigits n.natAbs = x at hd hit hz
    go_enter Tryz.func32, Tryz.ntmps32
    go_wp2_with fail
    refine (hd _).mono ?_
    rintro e w1 ⟨rfl, hb⟩
    go_wp2
    go_ret
    exact ⟨congrArg (fun x => Ending.returned (.string x)) hit.out, hb⟩
  · have hd := dig_pos n.toNat w (by omega)
    rw [show ((n.toNat : Nat) : Int) = n by omega] at hd
    unfold Go.Lib.itoa
    rw [if_neg hn]
    exact hd
end Go.Proofs.YtadmpdeegnppjaaGreatDoor
