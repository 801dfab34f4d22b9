/- Proved: sealed bytes are whole, all others as they were; with one bit turned they are whole no more; sealed again they are the same; no condition. -/
import Derived.Test.YtckfaohmjddkhaaRows
import Derived.Test.YtckfaohmjddkhaaSeals
import Derived.Test.YtckfaohmjddkhaaPlainC
import Derived.Deep.RegionHeld3
import Derived.WalkKit
import Derived.ProofKit
import Derived.OpenShut
import Derived.ShutString
import Derived.ChangeOld
import Derived.Below
import Derived.SizedLaws
namespace Go.Proofs.Ytckfaohmjddkhaa.sumWhole
open Go.ChangeShapes Go.WideShapes Go.ChangeAt Go.RowKit
open Go.ChangeMaps (open_string shut_string)
set_option linter.unusedVariables false

theorem own : ownKnob Try.prog.godebug = none := by kernel_rfl

-- WALK
theorem set_other {w : World} {a b : Addr} {v : Value} (h : a ≠ b) : (w.setCell a v).cell? b = w.cell? b := by
  apply World.cell?_setCell_other
  exact h

set_option maxRecDepth 100000 in
set_option maxHeartbeats 2000000 in
theorem walk (a0 : ByteArray) (w0 : a0.size ≤ maxLen) (a1 : Int) (w1 : (Lit.int .i64 a1).wf = true) (a2 : Int) (w2 : (Lit.int .i64 a2).wf = true) (w : World) :
    Calls Try.prog 7 #[.string a0, .int .i64 a1, .int .i64 a2] w fun e w' => e = .returned (.bool true) ∧ Below w.heap.size w w' := by
  unfold maxLen at w0
  by_cases h0 : a0.size < 2
  · go_enter Try.func7, Try.ntmps7
    go_wp2_with (go_at_call 12; refine (works_any _).mono ?_; rintro e u5 ⟨rfl, b5⟩)
    go_ret
    exact ⟨rfl, b5⟩
  · by_cases h1 : 2000 < a0.size
    · go_enter Try.func7, Try.ntmps7
      go_wp2_with (go_at_call 12; refine (works_any _).mono ?_; rintro e u5 ⟨rfl, b5⟩)
      go_ret
      exact ⟨rfl, b5⟩
    · have n0 : 0 ≤ a1 % ((a0.size : Int) / 2) := Int.emod_nonneg _ (by omega)
      have n1 : a1 % ((a0.size : Int) / 2) < (a0.size : Int) / 2 := Int.emod_lt_of_pos _ (by omega)
      go_enter Try.func7, Try.ntmps7
      go_wp2_with (first | (go_at_call 12; refine (works_any _).mono ?_; rintro e u5 ⟨rfl, b5⟩) | (go_at_call 25; refine (among_any _ _ _ (by omega) (by omega)).mono ?_; rintro e u1 ⟨rfl, rfl⟩))
      generalize a1 % ((a0.size : Int) / 2) = n at *
      have m0 : 0 ≤ 2 * n := by omega
      have m1 : 2 * n ≤ (a0.size : Int) - 2 := by omega
      have m2 : (2 * n) % 2 = 0 := by omega
      clear n0 n1
      generalize 2 * n = o at *
      have hsum := sum_sealS a0 o m0 m1 m2
      have hts := sealS_size a0 o m0 m1
      have hag := sealS_again a0 o m0 m1
      have hhd := head_sealS a0 o m0 m1
      have htl := tail_sealS a0 o m0 m1
      refine (seal_ok a0 o _ (by omega) m0 m1 m2).mono ?_
      rintro e u2 ⟨rfl, b2⟩
      have bb : Below w.heap.size w u2 := bt b5 b2
      clear b5 b2
      generalize sealS a0 o = t at *
      have hw0 : (sumS t == 0) = true := by unfold sumS missV; rw [hsum]; rfl
      have hlen : ((t.size : Int) != (a0.size : Int)) = false := by rw [hts]; simp
      have r1 : ∀ W, (Instr.slice 9 (.string t) none (some (.int .i64 o)) none).run Try.prog W = .ok (.string (headS a0 o)) W := fun W => by
        rw [run_slice_string_to_if W 9 t .i64 o Try.underlying9, if_pos ⟨m0, by omega⟩, ← hhd]; rfl
      have r2 : ∀ W, (Instr.slice 9 (.string a0) none (some (.int .i64 o)) none).run Try.prog W = .ok (.string (headS a0 o)) W := fun W => by
        rw [run_slice_string_to_if W 9 a0 .i64 o Try.underlying9, if_pos ⟨m0, by omega⟩]; rfl
      have r3 : ∀ W, (Instr.slice 9 (.string t) (some (.int .i64 (o + 2))) none none).run Try.prog W = .ok (.string (tailS a0 o)) W := fun W => by
        rw [run_slice_string_from_if W 9 t .i64 (o + 2) Try.underlying9, if_pos ⟨by omega, by omega⟩, ← htl]; rfl
      have r4 : ∀ W, (Instr.slice 9 (.string a0) (some (.int .i64 (o + 2))) none none).run Try.prog W = .ok (.string (tailS a0 o)) W := fun W => by
        rw [run_slice_string_from_if W 9 a0 .i64 (o + 2) Try.underlying9, if_pos ⟨by omega, by omega⟩]; rfl
      have hwr : IntKind.i64.wrap (o + 2) = o + 2 := by rw [IntKind.wrap_i64]; omega
      have hz1 : 2 ≤ t.size := by omega
      have hz2 : t.size ≤ 2000 := by omega
      have HAG : Hid (sealS t o = t) := hag
      have HSUM : Hid (foldV (ws true t.data.toList) = 65535) := hsum
      have HTS : Hid (t.size = a0.size) := hts
      clear hag hsum hts hhd htl
      generalize headS a0 o = A at *
      generalize tailS a0 o = B at *
      go_wp2_with fail
      go_region_held3 (fun w' => True) (trivial) (first | (go_at_call 19; refine (whole_any t _ (by omega)).mono ?_; rintro e u3 ⟨rfl, b3⟩))
      have b6 : Below w.heap.size w u3 := bt bb.drew b3
      clear b3 bb r1 r2 r3 r4 hwr hlen
      have k0 : 0 ≤ a2 % (8 * (t.size : Int)) := Int.emod_nonneg _ (by omega)
      have k1 : a2 % (8 * (t.size : Int)) < 8 * (t.size : Int) := Int.emod_lt_of_pos _ (by omega)
      go_wp2_with (first | (go_at_call 25; refine (among_any _ _ _ (by omega) (by omega)).mono ?_; rintro e u4 ⟨rfl, rfl⟩))
      obtain ⟨K, hK⟩ : ∃ K : Nat, a2 % (8 * (t.size : Int)) = (K : Int) := ⟨(a2 % (8 * (t.size : Int))).toNat, by omega⟩
      rw [hK] at k0 k1 ⊢
      clear hK k0
      have hKi : K / 8 < t.size := by omega
      obtain ⟨W1, hW1⟩ : ∃ W, W = u4.drew.alloc (.cells (bytesRow t (grownCap u4 t.size 0 5)) 5 ((bytesRow t (grownCap u4 t.size 0 5)).size, (bytesRow t (grownCap u4 t.size 0 5)).size + 1)) := ⟨_, rfl⟩
      have hcv := run_bytes_of_string (P := Try.prog) u4 9 44 5 t Try.underlying9 Try.underlying44 Try.underlying5
      rw [← hW1] at hcv
      have HC : Hid (∀ j (h : j < t.size), W1.cell? ⟨u4.heap.size, j, none⟩ = some (.int .u8 (t[j].toNat : Int))) := by
        rw [hW1]; exact get_loop_cells u4 t _
      have hfi : W1.frozen? ⟨u4.heap.size, K / 8, none⟩ = false := by
        rw [hW1]
        have e := World.frozen?_alloc_mark u4.drew (bytesRow t (grownCap u4 t.size 0 5)) 5 (bytesRow t (grownCap u4 t.size 0 5)).size ((bytesRow t (grownCap u4 t.size 0 5)).size + 1) (K / 8)
        have hbs : t.size ≤ (bytesRow t (grownCap u4 t.size 0 5)).size := by simp [bytesRow]
        refine e.trans ?_
        simp; omega
      have b7 : Below w.heap.size w W1 := by rw [hW1]; exact bt b6 ((Below.refl _ _).drew.alloc (Nat.le_refl _) _)
      have hsz : u4.heap.size < W1.heap.size := by rw [hW1]; simp
      clear hW1
      have hwz : w.heap.size ≤ u4.heap.size := b6.size
      clear b6
      generalize grownCap u4 t.size 0 5 = c at *
      generalize u4.heap.size = g at *
      have hci := HC.out (K / 8) hKi
      rw [hcv]
      clear hcv
      go_wp2
      have q1 : IntKind.i64.wrap ((K : Int) / 8) = ((K / 8 : Nat) : Int) := by
        rw [IntKind.wrap_i64]; omega
      have q2 : (K : Int).tmod 8 = ((K % 8 : Nat) : Int) := by
        rw [Int.tmod_eq_emod_of_nonneg (by omega)]; omega
      have q3 : K % 8 < 8 := Nat.mod_lt _ (by omega)
      obtain ⟨j, hj⟩ : ∃ j, j = K % 8 := ⟨_, rfl⟩
      rw [← hj] at q2 q3
      generalize hi : K / 8 = i at *
      have q4 : (0 : Int) ≤ (i : Int) := by omega
      have q5 : (i : Int) < (t.size : Int) := by omega
      have q6 : (0 : Int) ≤ (j : Int) := by omega
      have q7 : (j : Int) < 8 := by omega
      clear hj hi k1
      have hx : bits BinOp.xor IntKind.u8 (t[i].toNat : Int) (2 ^ j % 256) = ((UInt8.ofNat (t[i].toNat ^^^ 2 ^ j)).toNat : Int) := by
        have hb := bit_turn t[i].toNat t[i].toNat_lt j q3
        rw [ofNat_toNat _ hb.2, ← IntKind.wrap_u8']
        exact xor_bit t[i].toNat j t[i].toNat_lt q3
      have HX : Hid (bits BinOp.xor IntKind.u8 (t[i].toNat : Int) (2 ^ j % 256) = ((UInt8.ofNat (t[i].toNat ^^^ 2 ^ j)).toNat : Int)) := hx
      clear hx
      have HNW : Hid (¬ foldV (ws true (t.data.toList.set i (UInt8.ofNat (t[i].toNat ^^^ 2 ^ j)))) = 65535) := turn_not_whole t.data.toList i j (by rw [len_toList]; exact hKi) q3 HSUM.out
      generalize UInt8.ofNat (t[i].toNat ^^^ 2 ^ j) = b' at *
      go_region
      rw [HX.out]
      have HC2 : Hid (∀ k (h : k < (t.data.toList.set i b').length), (W1.setCell ⟨g, i, none⟩ (.int .u8 (b'.toNat : Int))).drew.cell? ⟨g, k, none⟩ = some (.int .u8 (((t.data.toList.set i b')[k]).toNat : Int))) := by
        intro k hk
        have hk2 : k < t.size := by rw [List.length_set, len_toList] at hk; exact hk
        show (W1.setCell ⟨g, i, none⟩ (.int .u8 (b'.toNat : Int))).cell? ⟨g, k, none⟩ = _
        by_cases e : i = k
        · subst e
          rw [World.cell?_setCell_same _ _ _ hci]
          simp
        · have hne : (⟨g, i, none⟩ : Addr) ≠ ⟨g, k, none⟩ := by
            intro h
            have := congrArg Addr.off h
            exact e this
          rw [List.getElem_set_ne e]
          exact (set_other hne).trans (HC.out k hk2)
      have b8 : Below w.heap.size w (W1.setCell ⟨g, i, none⟩ (.int .u8 (b'.toNat : Int))).drew := (b7.setCell hwz _).drew
      have hsz2 : g < (W1.setCell ⟨g, i, none⟩ (.int .u8 (b'.toNat : Int))).drew.heap.size := by
        have : (W1.setCell ⟨g, i, none⟩ (.int .u8 (b'.toNat : Int))).drew.heap.size = W1.heap.size := by simp [World.setCell]
        omega
      generalize (W1.setCell ⟨g, i, none⟩ (.int .u8 (b'.toNat : Int))).drew = W2 at *
      clear HC hci hfi hsz b7 q1 q2 q3 q4 q5 q6 q7 HX HSUM hw0
      have HT : Hid (o ≤ (t.size : Int) - 2) := by show _; rw [HTS.out]; exact m1
      have hl2 : (t.data.toList.set i b').length = t.size := by rw [List.length_set, len_toList]
      have hwh : (sumS ⟨(t.data.toList.set i b').toArray⟩ == 0) = false := by
        have hn := HNW.out
        have hbd := foldV_bd (ws true (t.data.toList.set i b'))
        unfold sumS missV
        simp only [beq_eq_false_iff_ne, ne_eq]
        omega
      have HL2 : Hid ((t.data.toList.set i b').length = t.size) := hl2
      clear HNW hl2
      generalize t.data.toList.set i b' = l at *
      go_wp2_with fail
      refine (seal_ok t o _ (by omega) m0 HT.out m2).mono ?_
      rw [HAG.out]
      rintro e W3 ⟨rfl, b9⟩
      have hcv := run_convert_bytes_back (P := Try.prog) W3 44 9 5 ⟨g, 0, none⟩ c l Try.underlying44 Try.underlying5 Try.underlying9 (by
        intro k hk
        rw [Addr.add_lit, Nat.zero_add]
        exact cell_later b9 (HC2.out k hk))
      rw [HL2.out] at hcv
      clear HC2
      go_wp2_with (first | (go_at_call 19; refine (whole_any _ _ (by show l.toArray.size ≤ _; simp only [List.size_toArray]; rw [HL2.out]; omega)).mono ?_; rintro e W4 ⟨rfl, b10⟩))
      go_ret
      exact ⟨rfl, bt (bt b8 b9) b10⟩


set_option maxRecDepth 100000 in
theorem lifted (os : Os) (started : os.Started) (H : Type) (enc : TypeId × Value → H) :
    ReturnsInHanded {} Try.checked os 7 .any (Rows.sumWholeSpec.pre6 enc Try.prog Try.f7 Rows.sumWholeRow.domain false) (Rows.sumWholeSpec.post enc Try.prog Try.f7 false true false false) := by
  refine returnsInHanded_of_change (C := Try.checked) own started (by kernel_rfl) Try.func7
    (ChangeSpec.witness6 (enc := enc) (C := Try.checked) false ⟨#[], #[.string ByteArray.empty, .int .i64 0, .int .i64 0], []⟩ 8 (by kernel_rfl) (by kernel_rfl) (by kernel_rfl) (by kernel_rfl)) ?_
  intro W base args ds gs before hval0 hW hcnd _
  have hval : ∀ (j : Nat) t v, Try.f7.params[j]? = some t → args[j]? = some v → Value.okWide Try.prog W .any base t v := hval0
  have hW' := hW
  obtain ⟨p, q, hA0, hV, rfl, hfz, hnd⟩ := hW
  have hA : DataW.TrodAll enc Try.prog W 0 (fun _ => true) true Try.f7.params.toList args.toList ds p := hA0
  rw [Try.params7] at hA hval
  obtain ⟨v0, vs0, d0, ds0, p0, q0, hargs, rfl, rfl, h0, r0⟩ := trodAll_cons hA
  obtain ⟨v1, vs1, d1, ds1, p1, q1, rfl, rfl, rfl, h1, r1⟩ := trodAll_cons r0
  obtain ⟨v2, vs2, d2, ds2, p2, q2, rfl, rfl, rfl, h2, r2⟩ := trodAll_cons r1
  obtain ⟨rfl, rfl, rfl⟩ := trodAll_nil r2
  obtain rfl : args = #[v0, v1, v2] := by cases args; simp_all
  obtain ⟨rfl, rfl⟩ := trodVars_none hV
  obtain ⟨a0, rfl, rfl, rfl, w0⟩ := open_string Try.underlying9 (hval 0 9 v0 rfl rfl) h0
  obtain ⟨a1, rfl, rfl, rfl, w1⟩ := open_int Try.underlying3 (hval 1 3 v1 rfl rfl) h1
  obtain ⟨a2, rfl, rfl, rfl, w2⟩ := open_int Try.underlying3 (hval 2 3 v2 rfl rfl) h2
  clear hA0 hval0
  refine (walk a0 w0 a1 w1 a2 w2 W).mono fun e W' ⟨he, bel⟩ => ?_
  subst he
  exact ⟨_, rfl, _, _, _, [], _, [], hW', trodAll_mk1 (shut_bool Try.underlying4 _), (trodAll_cons_mk (shut_string Try.underlying9 w0) (trodAll_cons_mk (shut_int Try.underlying3 w1) (trodAll_cons_mk (shut_int Try.underlying3 w2) trodAll_mk0))), rfl, bel.frame _, fun h => by cases h⟩

theorem over : Rows.sumWholeRow.holds Try.pinned (OpenSpec.ofChange Rows.sumWholeSpec) :=
  OpenClaim.holds_of_wide 7 Try.f7 rfl rfl rfl rfl rfl rfl rfl ⟨rfl, rfl, rfl, rfl, rfl⟩ rfl rfl rfl rfl rfl (by kernel_rfl) Try.func7 (by kernel_rfl)
    (of_decide_eq_true (by kernel_rfl)) (by unfold Func.isWrapper; first | (rw [if_pos (by decide +kernel)]; kernel_rfl) | (rw [if_neg (by decide +kernel)]; exact ⟨rfl, rfl⟩))
    (fun os started H enc _ => lifted os started H enc)

end Go.Proofs.Ytckfaohmjddkhaa.sumWhole
namespace Go.Proofs.Ytckfaohmjddkhaa
theorem sumWhole_holds : Rows.SumWholeSaid := sumWhole.over
end Go.Proofs.Ytckfaohmjddkhaa
