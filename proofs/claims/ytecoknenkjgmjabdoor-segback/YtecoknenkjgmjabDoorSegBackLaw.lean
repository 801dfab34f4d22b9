/- For all two addresses, segments and bits: what Encode answers Decode answers as the segment; with that bit turned it is none, nor with that bit of the first address turned; between the addresses changed it is the segment; and what came in reads as it did. Conditions: the card's own alone (the order of the kinds is what the program's text lays). -/
import Derived.Test.YtecoknenkjgmjabDoorSf
import Derived.Test.YtecoknenkjgmjabDoorTd
import Derived.Test.YtecoknenkjgmjabDoorTg
import Derived.Test.YtecoknenkjgmjabDoorSe
import Derived.Test.YtecoknenkjgmjabDoorGx
import Derived.Test.YtecoknenkjgmjabDoorFactsF
import Derived.Deep.Cut
import Derived.BigRegion
import Derived.Deep.QuietTactic
import Derived.BigQuiet
import Derived.WalkSmall
import Derived.Test.YtecoknenkjgmjabDoorFs
import Derived.Test.YtecoknenkjgmjabDoorFt
import Derived.Test.YtecoknenkjgmjabDoorTie
import Derived.Test.YtecoknenkjgmjabDoorCards
import Derived.SevenTiedAt
import Derived.Stop.Joined
namespace Go.Proofs.YtecoknenkjgmjabDoor.segBack
open Go.ChangeShapes Go.WideShapes Go.ChangeAt Go.RowKit
open Go.ChangeMaps (open_string)
set_option linter.unusedVariables false
set_option maxRecDepth 100000

-- WALK
theorem i64_xor_nat (a b : Nat) (ha : a < 2 ^ 62) (hb : b < 2 ^ 62) : bits .xor .i64 (a : Int) (b : Int) = ((a ^^^ b : Nat) : Int) := by
  show IntKind.i64.wrap ((BitVec.ofInt 64 (a : Int) ^^^ BitVec.ofInt 64 (b : Int)).toNat : Nat) = _
  have ea : (BitVec.ofInt 64 (a : Int)).toNat = a := by rw [BitVec.toNat_ofInt]; omega
  have eb : (BitVec.ofInt 64 (b : Int)).toNat = b := by rw [BitVec.toNat_ofInt]; omega
  have hl := Nat.xor_lt_two_pow ha hb
  rw [BitVec.toNat_xor, ea, eb, IntKind.wrap_i64]
  omega
theorem setCell_id {w : World} {b i : Nat} {v : Value} (h : w.cell? ⟨b, i, none⟩ = some v) : w.setCell ⟨b, i, none⟩ v = w := by
  have hh : (w.heap.modify b fun
      | .cells c elem frozen => .cells (if (none : Option Nat).isSome then c else c.setIfInBounds i v) elem frozen
      | o => o) = w.heap := by
    apply Array.ext_getElem?
    intro k
    rw [Array.getElem?_modify]
    by_cases e : b = k
    · subst e
      rw [if_pos rfl]
      unfold World.cell? at h
      simp only at h
      cases hb : w.heap[b]? with
      | none => rfl
      | some ob =>
        rw [hb] at h
        cases ob with
        | cells c elem fr =>
          simp only [Option.isSome_none, Bool.false_eq_true, if_false] at h
          simp only [Option.map_some, Option.isSome_none, Bool.false_eq_true, if_false]
          congr 2
          apply Array.ext_getElem?
          intro j
          by_cases ej : i = j
          · subst ej
            rw [h]
            have := (Array.getElem?_eq_some_iff.1 h).1
            simp [this]
          · rw [Array.getElem?_setIfInBounds_ne ej]
        | _ => simp at h
    · rw [if_neg e]
  show ({ w with heap := _ } : World) = w
  exact congrArg (fun x => ({ w with heap := x } : World)) hh
theorem setCells_id (b : Nat) : ∀ (vs : List Value) (o : Nat) (w : World), w.rangeAt b o vs → w.setCells b o vs = w
  | [], _, _, _ => rfl
  | v :: vs, o, w, h => by
    rw [World.setCells, setCell_id (by have := h 0 v rfl; rwa [Nat.add_zero] at this)]
    exact setCells_id b vs (o + 1) w (fun j u hj => by have := h (j + 1) u (by simpa using hj); rwa [show o + (j + 1) = o + 1 + j by omega] at this)
theorem walk_n (f t : Int) (s : Sg) (v : Value) (bit : Int) (c : Int) (w : World) (hG : Ord w) (hv : Rgs w v s.o.rs) (hc : (c != 0) = true)
    (HE : Hid (∀ W, Rgs W v s.o.rs → Ord W → Calls Tryd.prog 9 #[.int .i64 f, .int .i64 t, .agg #[.int .i64 s.fr, .int .i64 s.dt, .int .i64 s.sq, .int .i64 s.ak, .int .i64 s.fl, .int .i64 s.wi, .int .i64 s.ur, .int .i64 s.o.m, .int .i64 s.o.c, .int .i64 s.o.t, .int .i64 s.o.ec, .bool s.o.sd, .bool s.o.ok, .bool s.o.sp, v, .string s.da]] W fun e w' => e = .returned (.tuple #[.string ⟨#[]⟩, .int .i64 c]) ∧ Below W.heap.size W w')) :
    Calls Tryd.prog 6 #[.agg #[.int .i64 f, .int .i64 t], .agg #[.int .i64 s.fr, .int .i64 s.dt, .int .i64 s.sq, .int .i64 s.ak, .int .i64 s.fl, .int .i64 s.wi, .int .i64 s.ur, .int .i64 s.o.m, .int .i64 s.o.c, .int .i64 s.o.t, .int .i64 s.o.ec, .bool s.o.sd, .bool s.o.ok, .bool s.o.sp, v, .string s.da], .int .i64 bit] w fun e w' => e = .returned (.bool true) ∧ Below w.heap.size w w' := by
  have hb1 := bel1 w (.cells #[.int .i64 f, .int .i64 t] 23)
  have hb2 := bel1 (w.alloc (.cells #[.int .i64 f, .int .i64 t] 23)) (.cells #[.int .i64 s.fr, .int .i64 s.dt, .int .i64 s.sq, .int .i64 s.ak, .int .i64 s.fl, .int .i64 s.wi, .int .i64 s.ur, .int .i64 s.o.m, .int .i64 s.o.c, .int .i64 s.o.t, .int .i64 s.o.ec, .bool s.o.sd, .bool s.o.ok, .bool s.o.sp, v, .string s.da] 28)
  have hA := (At.box w #[.int .i64 f, .int .i64 t] 23).later hb2
  have hQ := At.box2 w (.cells #[.int .i64 f, .int .i64 t] 23) #[.int .i64 s.fr, .int .i64 s.dt, .int .i64 s.sq, .int .i64 s.ak, .int .i64 s.fl, .int .i64 s.wi, .int .i64 s.ur, .int .i64 s.o.m, .int .i64 s.o.c, .int .i64 s.o.t, .int .i64 s.o.ec, .bool s.o.sd, .bool s.o.ok, .bool s.o.sp, v, .string s.da] 28
  have hl := bt hb1 hb2
  clear hb1 hb2
  go_enter Tryd.func6, Tryd.ntmps6
  go_upto_region 1 with fail
  generalize hw0 : (w.alloc (.cells #[.int .i64 f, .int .i64 t] 23)).alloc (.cells #[.int .i64 s.fr, .int .i64 s.dt, .int .i64 s.sq, .int .i64 s.ak, .int .i64 s.fl, .int .i64 s.wi, .int .i64 s.ur, .int .i64 s.o.m, .int .i64 s.o.c, .int .i64 s.o.t, .int .i64 s.o.ec, .bool s.o.sd, .bool s.o.ok, .bool s.o.sp, v, .string s.da] 28) = w0 at *
  clear hw0
  go_wp2_with fail
  refine (works_s _ (hG.later hl)).mono ?_
  rintro e w1 ⟨rfl, hb⟩
  replace hl := bt hl hb
  replace hA := hA.later hb
  replace hQ := hQ.later hb
  clear hb
  have c0 := (hA.2 0 _ rfl).1
  have c1 := (hA.2 1 _ rfl).1
  go_wp2_with (refine wpList_loadG 28 _ (by rfl) (by rfl) (w.heap.size + 1) 0 (by rfl) _ _ hQ.range Tryd.underlying28 rfl size28 ?_)
  refine (HE.out _ (hv.later hl) (hG.later hl)).mono ?_
  rintro e w2 ⟨rfl, hb⟩
  replace hl := bt hl hb
  replace hA := hA.later hb
  replace hQ := hQ.later hb
  clear hb HE c0 c1
  go_wp2
  go_ret
  exact ⟨rfl, hl⟩
set_option maxHeartbeats 16000000 in
theorem walk_y (f t : Int) (s : Sg) (v : Value) (bit : Int) (EN : ByteArray) (KB : Nat) (R32 P2 F2 : Int) (w : World) (hG : Ord w) (hv : Rgs w v s.o.rs) (hz0 : 20 ≤ EN.size) (hz1 : EN.size ≤ 1540) (hKB : bit % (8 * (EN.size : Int)) = (KB : Int))
    (e3 : (KB : Int).tmod 32 = R32) (e3' : IntKind.i64.wrap R32 = R32) (e30 : 0 ≤ R32) (e31 : R32 < 32) (e4 : IntKind.i64.wrap (2 ^ R32.toNat) = P2) (e5 : bits .xor .i64 f P2 = F2)
    (HE : Hid (∀ W, Rgs W v s.o.rs → Ord W → Calls Tryd.prog 9 #[.int .i64 f, .int .i64 t, .agg #[.int .i64 s.fr, .int .i64 s.dt, .int .i64 s.sq, .int .i64 s.ak, .int .i64 s.fl, .int .i64 s.wi, .int .i64 s.ur, .int .i64 s.o.m, .int .i64 s.o.c, .int .i64 s.o.t, .int .i64 s.o.ec, .bool s.o.sd, .bool s.o.ok, .bool s.o.sp, v, .string s.da]] W fun e w' => e = .returned (.tuple #[.string EN, .int .i64 0]) ∧ Below W.heap.size W w'))
    (HD : Hid (∀ W, Ord W → Calls Tryd.prog 18 #[.int .i64 f, .int .i64 t, .string EN] W fun e w' => ∃ v, e = .returned (.tuple #[.agg #[.int .i64 s.fr, .int .i64 s.dt, .int .i64 s.sq, .int .i64 s.ak, .int .i64 s.fl, .int .i64 s.wi, .int .i64 s.ur, .int .i64 s.o.m, .int .i64 s.o.c, .int .i64 s.o.t, .int .i64 s.o.ec, .bool s.o.sd, .bool s.o.ok, .bool s.o.sp, v, .string s.da], .int .i64 0]) ∧ Rgs w' v s.o.rs ∧ Below W.heap.size W w'))
    (HT : Hid (∀ W (c : ByteArray) (i j : Nat) (hi : i < EN.size), Ord W → j < 8 → c.data.toList = EN.data.toList.set i (UInt8.ofNat (EN[i].toNat ^^^ 2 ^ j)) → Calls Tryd.prog 18 #[.int .i64 f, .int .i64 t, .string c] W fun e w' => ∃ x : Int, (x != 0) = true ∧ e = .returned (.tuple #[.agg #[.int .i64 0, .int .i64 0, .int .i64 0, .int .i64 0, .int .i64 0, .int .i64 0, .int .i64 0, .int .i64 0, .int .i64 0, .int .i64 0, .int .i64 0, .bool false, .bool false, .bool false, .slice none 0 0, .string ⟨#[]⟩], .int .i64 x]) ∧ Below W.heap.size W w'))
    (HO : Hid (∀ W, Ord W → Calls Tryd.prog 18 #[.int .i64 F2, .int .i64 t, .string EN] W fun e w' => e = .returned (.tuple #[.agg #[.int .i64 0, .int .i64 0, .int .i64 0, .int .i64 0, .int .i64 0, .int .i64 0, .int .i64 0, .int .i64 0, .int .i64 0, .int .i64 0, .int .i64 0, .bool false, .bool false, .bool false, .slice none 0 0, .string ⟨#[]⟩], .int .i64 20]) ∧ Below W.heap.size W w'))
    (HW : Hid (∀ W, Ord W → Calls Tryd.prog 18 #[.int .i64 t, .int .i64 f, .string EN] W fun e w' => ∃ v, e = .returned (.tuple #[.agg #[.int .i64 s.fr, .int .i64 s.dt, .int .i64 s.sq, .int .i64 s.ak, .int .i64 s.fl, .int .i64 s.wi, .int .i64 s.ur, .int .i64 s.o.m, .int .i64 s.o.c, .int .i64 s.o.t, .int .i64 s.o.ec, .bool s.o.sd, .bool s.o.ok, .bool s.o.sp, v, .string s.da], .int .i64 0]) ∧ Rgs w' v s.o.rs ∧ Below W.heap.size W w'))
    (HS : Hid (∀ W u, Rgs W u s.o.rs → Rgs W v s.o.rs → Calls Tryd.prog 23 #[.agg #[.int .i64 s.fr, .int .i64 s.dt, .int .i64 s.sq, .int .i64 s.ak, .int .i64 s.fl, .int .i64 s.wi, .int .i64 s.ur, .int .i64 s.o.m, .int .i64 s.o.c, .int .i64 s.o.t, .int .i64 s.o.ec, .bool s.o.sd, .bool s.o.ok, .bool s.o.sp, u, .string s.da], .agg #[.int .i64 s.fr, .int .i64 s.dt, .int .i64 s.sq, .int .i64 s.ak, .int .i64 s.fl, .int .i64 s.wi, .int .i64 s.ur, .int .i64 s.o.m, .int .i64 s.o.c, .int .i64 s.o.t, .int .i64 s.o.ec, .bool s.o.sd, .bool s.o.ok, .bool s.o.sp, v, .string s.da]] W fun e w' => e = .returned (.bool true) ∧ Below W.heap.size W w')) :
    Calls Tryd.prog 6 #[.agg #[.int .i64 f, .int .i64 t], .agg #[.int .i64 s.fr, .int .i64 s.dt, .int .i64 s.sq, .int .i64 s.ak, .int .i64 s.fl, .int .i64 s.wi, .int .i64 s.ur, .int .i64 s.o.m, .int .i64 s.o.c, .int .i64 s.o.t, .int .i64 s.o.ec, .bool s.o.sd, .bool s.o.ok, .bool s.o.sp, v, .string s.da], .int .i64 bit] w fun e w' => e = .returned (.bool true) ∧ Below w.heap.size w w' := by
  have hKK : KB < 8 * EN.size := by
    have := Int.emod_lt_of_pos bit (show 0 < 8 * (EN.size : Int) by omega)
    omega
  have hb1 := bel1 w (.cells #[.int .i64 f, .int .i64 t] 23)
  have hb2 := bel1 (w.alloc (.cells #[.int .i64 f, .int .i64 t] 23)) (.cells #[.int .i64 s.fr, .int .i64 s.dt, .int .i64 s.sq, .int .i64 s.ak, .int .i64 s.fl, .int .i64 s.wi, .int .i64 s.ur, .int .i64 s.o.m, .int .i64 s.o.c, .int .i64 s.o.t, .int .i64 s.o.ec, .bool s.o.sd, .bool s.o.ok, .bool s.o.sp, v, .string s.da] 28)
  have hA := (At.box w #[.int .i64 f, .int .i64 t] 23).later hb2
  have hQ := At.box2 w (.cells #[.int .i64 f, .int .i64 t] 23) #[.int .i64 s.fr, .int .i64 s.dt, .int .i64 s.sq, .int .i64 s.ak, .int .i64 s.fl, .int .i64 s.wi, .int .i64 s.ur, .int .i64 s.o.m, .int .i64 s.o.c, .int .i64 s.o.t, .int .i64 s.o.ec, .bool s.o.sd, .bool s.o.ok, .bool s.o.sp, v, .string s.da] 28
  have hl := bt hb1 hb2
  clear hb1 hb2
  go_enter Tryd.func6, Tryd.ntmps6
  go_upto_region 1 with fail
  generalize hw0 : (w.alloc (.cells #[.int .i64 f, .int .i64 t] 23)).alloc (.cells #[.int .i64 s.fr, .int .i64 s.dt, .int .i64 s.sq, .int .i64 s.ak, .int .i64 s.fl, .int .i64 s.wi, .int .i64 s.ur, .int .i64 s.o.m, .int .i64 s.o.c, .int .i64 s.o.t, .int .i64 s.o.ec, .bool s.o.sd, .bool s.o.ok, .bool s.o.sp, v, .string s.da] 28) = w0 at *
  clear hw0
  go_wp2_with fail
  refine (works_s _ (hG.later hl)).mono ?_
  rintro e w1 ⟨rfl, hb⟩
  replace hl := bt hl hb
  replace hA := hA.later hb
  replace hQ := hQ.later hb
  clear hb
  have c0 := (hA.2 0 _ rfl).1
  have c1 := (hA.2 1 _ rfl).1
  go_wp2_with (refine wpList_loadG 28 _ (by rfl) (by rfl) (w.heap.size + 1) 0 (by rfl) _ _ hQ.range Tryd.underlying28 rfl size28 ?_)
  refine (HE.out _ (hv.later hl) (hG.later hl)).mono ?_
  rintro e w2 ⟨rfl, hb⟩
  replace hl := bt hl hb
  replace hA := hA.later hb
  replace hQ := hQ.later hb
  clear hb HE c0 c1
  have c0 := (hA.2 0 _ rfl).1
  have c1 := (hA.2 1 _ rfl).1
  go_wp2_with fail
  refine (HD.out _ (hG.later hl)).mono ?_
  rintro e w3 ⟨u, rfl, hu, hb⟩
  obtain ⟨a1, cap1, hue, -⟩ := id hu
  subst hue
  have hbx := bel1 w3 (.cells #[.int .i64 s.fr, .int .i64 s.dt, .int .i64 s.sq, .int .i64 s.ak, .int .i64 s.fl, .int .i64 s.wi, .int .i64 s.ur, .int .i64 s.o.m, .int .i64 s.o.c, .int .i64 s.o.t, .int .i64 s.o.ec, .bool s.o.sd, .bool s.o.ok, .bool s.o.sp, (.slice a1 s.o.rs.length cap1), .string s.da] 28)
  have hX := At.box w3 #[.int .i64 s.fr, .int .i64 s.dt, .int .i64 s.sq, .int .i64 s.ak, .int .i64 s.fl, .int .i64 s.wi, .int .i64 s.ur, .int .i64 s.o.m, .int .i64 s.o.c, .int .i64 s.o.t, .int .i64 s.o.ec, .bool s.o.sd, .bool s.o.ok, .bool s.o.sp, (.slice a1 s.o.rs.length cap1), .string s.da] 28
  replace hl := bt (bt hl hb) hbx
  replace hA := hA.later (bt hb hbx)
  replace hQ := hQ.later (bt hb hbx)
  replace hu := hu.later hbx
  clear hb HD c0 c1
  go_upto_region 7 with fail
  obtain ⟨B9, hB9⟩ : ∃ B, B = w3.heap.size := ⟨_, rfl⟩
  rw [← hB9] at hX ⊢
  generalize w3.alloc (.cells #[.int .i64 s.fr, .int .i64 s.dt, .int .i64 s.sq, .int .i64 s.ak, .int .i64 s.fl, .int .i64 s.wi, .int .i64 s.ur, .int .i64 s.o.m, .int .i64 s.o.c, .int .i64 s.o.t, .int .i64 s.o.ec, .bool s.o.sd, .bool s.o.ok, .bool s.o.sp, (.slice a1 s.o.rs.length cap1), .string s.da] 28) = W3 at *
  clear hbx hB9
  have hz2 : (EN.size : Int) ≤ 1540 := by omega
  have hz3 : 20 ≤ (EN.size : Int) := by omega
  go_wp2_with fail
  refine (among_any _ _ _ (by omega) (by omega)).mono ?_
  rintro e wz ⟨rfl, rfl⟩
  rw [hKB]
  go_upto_region 8 with fail
  obtain ⟨W3, hW3⟩ : ∃ W, W = wz := ⟨_, rfl⟩
  subst hW3
  have HX : Hid (Below w.heap.size w W3 ∧ At W3 w.heap.size #[.int .i64 f, .int .i64 t] ∧ At W3 (w.heap.size + 1) #[.int .i64 s.fr, .int .i64 s.dt, .int .i64 s.sq, .int .i64 s.ak, .int .i64 s.fl, .int .i64 s.wi, .int .i64 s.ur, .int .i64 s.o.m, .int .i64 s.o.c, .int .i64 s.o.t, .int .i64 s.o.ec, .bool s.o.sd, .bool s.o.ok, .bool s.o.sp, v, .string s.da] ∧ At W3 B9 #[.int .i64 s.fr, .int .i64 s.dt, .int .i64 s.sq, .int .i64 s.ak, .int .i64 s.fl, .int .i64 s.wi, .int .i64 s.ur, .int .i64 s.o.m, .int .i64 s.o.c, .int .i64 s.o.t, .int .i64 s.o.ec, .bool s.o.sd, .bool s.o.ok, .bool s.o.sp, (.slice a1 s.o.rs.length cap1), .string s.da] ∧ Rgs W3 (.slice a1 s.o.rs.length cap1) s.o.rs) := ⟨hl, hA, hQ, hX, hu⟩
  clear hl hA hQ hX hu
  go_cut [11] from 18 (fun q W => ∃ c : Nat, q = .slice (some ⟨W3.heap.size, 0, none⟩) EN.size c ∧ Below W3.heap.size W3 W ∧ (∀ j (h : j < EN.size), W.cell? ⟨W3.heap.size, j, none⟩ = some (.int .u8 (EN[j].toNat : Int))) ∧ (∀ i : Nat, i < EN.size → W.frozen? ⟨W3.heap.size, i, none⟩ = false))
  case first =>
    clear HX HT HO HW HS
    go_wp2
    have hcv := run_bytes_of_string (P := Tryd.prog) W3 9 44 5 EN Tryd.underlying9 Tryd.underlying44 Tryd.underlying5
    rw [hcv]
    clear hcv
    have b6 : Below W3.heap.size W3 (W3.drew.alloc (.cells (bytesRow EN (grownCap W3 EN.size 0 5)) 5 ((bytesRow EN (grownCap W3 EN.size 0 5)).size, (bytesRow EN (grownCap W3 EN.size 0 5)).size + 1))) := (Below.refl _ _).drew.alloc (Nat.le_refl _) _
    have hcl := get_loop_cells W3 EN (grownCap W3 EN.size 0 5)
    have hfr : ∀ i : Nat, i < EN.size → (W3.drew.alloc (.cells (bytesRow EN (grownCap W3 EN.size 0 5)) 5 ((bytesRow EN (grownCap W3 EN.size 0 5)).size, (bytesRow EN (grownCap W3 EN.size 0 5)).size + 1))).frozen? ⟨W3.heap.size, i, none⟩ = false := by
      intro i hi
      have e := World.frozen?_alloc_mark W3.drew (bytesRow EN (grownCap W3 EN.size 0 5)) 5 (bytesRow EN (grownCap W3 EN.size 0 5)).size ((bytesRow EN (grownCap W3 EN.size 0 5)).size + 1) i
      have hbs : EN.size ≤ (bytesRow EN (grownCap W3 EN.size 0 5)).size := by simp [bytesRow]
      refine e.trans ?_
      simp; omega
    generalize W3.drew.alloc (.cells (bytesRow EN (grownCap W3 EN.size 0 5)) 5 ((bytesRow EN (grownCap W3 EN.size 0 5)).size, (bytesRow EN (grownCap W3 EN.size 0 5)).size + 1)) = W4 at *
    go_wp2
    go_meet
    case rel => exact ⟨_, rfl, b6, hcl, hfr⟩
  case rest =>
  obtain ⟨cc, rfl, b6, hcl, hfr⟩ := hcut
  obtain ⟨W4, hW4⟩ : ∃ x, x = wc := ⟨wc, rfl⟩
  subst hW4
  have hKi0 : KB / 8 < EN.size := by omega
  have q1 : IntKind.i64.wrap ((KB : Int) / 8) = ((KB / 8 : Nat) : Int) := by
    rw [IntKind.wrap_i64]; omega
  have q1' : IntKind.i64.wrap ((KB : Int).tdiv 8) = ((KB / 8 : Nat) : Int) := by
    rw [Int.tdiv_eq_ediv_of_nonneg (by omega), IntKind.wrap_i64]; omega
  have q2 : (KB : Int).tmod 8 = ((KB % 8 : Nat) : Int) := by
    rw [Int.tmod_eq_emod_of_nonneg (by omega)]; omega
  have q3 : KB % 8 < 8 := Nat.mod_lt _ (by omega)
  obtain ⟨i, hi⟩ : ∃ i, i = KB / 8 := ⟨_, rfl⟩
  obtain ⟨j, hj⟩ : ∃ j, j = KB % 8 := ⟨_, rfl⟩
  rw [← hj] at q2 q3
  rw [← hi] at hKi0 q1 q1'
  have hKi : i < EN.size := hKi0
  clear hi hj hKi0
  have hx : bits BinOp.xor IntKind.u8 (EN[i].toNat : Int) (2 ^ j % 256) = ((UInt8.ofNat (EN[i].toNat ^^^ 2 ^ j)).toNat : Int) := by
    have hb := bit_turn EN[i].toNat EN[i].toNat_lt j q3
    rw [ofNat_toNat _ hb.2, ← IntKind.wrap_u8']
    exact xor_bit EN[i].toNat j EN[i].toNat_lt q3
  have HT2 := fun W (c : ByteArray) hW h => HT.out W c i j hKi hW q3 h
  obtain ⟨b', hb'⟩ : ∃ b', b' = UInt8.ofNat (EN[i].toNat ^^^ 2 ^ j) := ⟨_, rfl⟩
  rw [← hb'] at hx HT2
  have HXX : Hid (bits BinOp.xor IntKind.u8 (EN[i].toNat : Int) (2 ^ j % 256) = (b'.toNat : Int)) := hx
  have HTT : Hid (∀ W (c : ByteArray), Ord W → c.data.toList = EN.data.toList.set i b' → Calls Tryd.prog 18 #[.int .i64 f, .int .i64 t, .string c] W fun e w' => ∃ x : Int, (x != 0) = true ∧ e = .returned (.tuple #[.agg #[.int .i64 0, .int .i64 0, .int .i64 0, .int .i64 0, .int .i64 0, .int .i64 0, .int .i64 0, .int .i64 0, .int .i64 0, .int .i64 0, .int .i64 0, .bool false, .bool false, .bool false, .slice none 0 0, .string ⟨#[]⟩], .int .i64 x]) ∧ Below W.heap.size W w') := HT2
  clear hx HT2 HT hb'
  go_upto_region 9 with fail
  go_cut [] from 18 (fun W => Below W3.heap.size W3 W ∧ ∀ k (h : k < (EN.data.toList.set i b').length), W.cell? ⟨W3.heap.size, k, none⟩ = some (.int .u8 (((EN.data.toList.set i b')[k]).toNat : Int)))
  case first =>
    clear HX HTT HO HW HS e3 e3' e30 e31 e4 e5 hKB hz2 hz3
    have hci := hcl i hKi
    have hfi := hfr i hKi
    have HCL : Hid (∀ j (h : j < EN.size), W4.cell? ⟨W3.heap.size, j, none⟩ = some (.int .u8 (EN[j].toNat : Int))) := hcl
    clear hcl hfr
    have q4 : (0 : Int) ≤ (i : Int) := by omega
    have q5 : (i : Int) < (EN.size : Int) := by omega
    have q6 : (0 : Int) ≤ (j : Int) := by omega
    have q7 : (j : Int) < 8 := by omega
    clear hKK
    go_wp2
    go_region
    rw [HXX.out]
    have b8 : Below W3.heap.size W3 (W4.setCell ⟨W3.heap.size, i, none⟩ (.int .u8 (b'.toNat : Int))).drew := (b6.setCell (p := ⟨W3.heap.size, i, none⟩) (Nat.le_refl _) _).drew
    have HC2 : Hid (∀ k (h : k < (EN.data.toList.set i b').length), (W4.setCell ⟨W3.heap.size, i, none⟩ (.int .u8 (b'.toNat : Int))).drew.cell? ⟨W3.heap.size, k, none⟩ = some (.int .u8 (((EN.data.toList.set i b')[k]).toNat : Int))) := by
      intro k hk
      have hk2 : k < EN.size := by rw [List.length_set, len_toList] at hk; exact hk
      show (W4.setCell ⟨W3.heap.size, i, none⟩ (.int .u8 (b'.toNat : Int))).cell? ⟨W3.heap.size, k, none⟩ = _
      by_cases e : i = k
      · subst e
        rw [World.cell?_setCell_same _ _ _ hci]
        simp
      · have hne : (⟨W3.heap.size, i, none⟩ : Addr) ≠ ⟨W3.heap.size, k, none⟩ := by
          intro h
          have := congrArg Addr.off h
          exact e this
        rw [List.getElem_set_ne e]
        exact (World.cell?_setCell_other _ _ _ _ hne).trans (HCL.out k hk2)
    generalize (W4.setCell ⟨W3.heap.size, i, none⟩ (.int .u8 (b'.toNat : Int))).drew = W5 at *
    go_wp2
    go_meet
    case rel => exact ⟨b8, HC2.out⟩
  case rest =>
  clear b6 hcl hfr
  obtain ⟨b6, hcl⟩ := hcut
  obtain ⟨W5, hW5⟩ : ∃ x, x = wc := ⟨wc, rfl⟩
  subst hW5
  clear q1 q1' q2 q3 HXX
  have hlen : (EN.data.toList.set i b').length = EN.size := by rw [List.length_set, len_toList]
  have HT2 := fun (c : ByteArray) hW h => HTT.out W5 c hW h
  generalize hl0 : EN.data.toList.set i b' = l at *
  have HCV : Hid ((convert 44 9 (.slice (some ⟨W3.heap.size, 0, none⟩) EN.size cc)).run Tryd.prog W5 = .ok (.string ⟨l.toArray⟩) W5) := by
    have hcv := run_convert_bytes_back (P := Tryd.prog) W5 44 9 5 ⟨W3.heap.size, 0, none⟩ cc l Tryd.underlying44 Tryd.underlying5 Tryd.underlying9 (by
      intro k hk
      rw [Addr.add_lit, Nat.zero_add]
      exact hcl k hk)
    rw [hlen] at hcv
    exact hcv
  have HT3 : Hid (Calls Tryd.prog 18 #[.int .i64 f, .int .i64 t, .string ⟨l.toArray⟩] W5 fun e w' => ∃ x : Int, (x != 0) = true ∧ e = .returned (.tuple #[.agg #[.int .i64 0, .int .i64 0, .int .i64 0, .int .i64 0, .int .i64 0, .int .i64 0, .int .i64 0, .int .i64 0, .int .i64 0, .int .i64 0, .int .i64 0, .bool false, .bool false, .bool false, .slice none 0 0, .string ⟨#[]⟩], .int .i64 x]) ∧ Below W5.heap.size W5 w') := HT2 ⟨l.toArray⟩ (hG.later (bt HX.out.1 b6)) (by simp)
  clear HT2 HTT hlen hl0 hcl
  go_upto_region 10 with fail
  go_cut [12, 13] from 18 (fun q z W => ∃ (B12 : Nat) (x0 : Int), q = .pointer (some ⟨B12, 0, none⟩) ∧ z = .int .i64 x0 ∧ (x0 != 0) = true ∧ Below W3.heap.size W3 W)
  case first =>
    clear HO HW HS e3 e3' e30 e31 e4 e5 hKB hz2 hz3
    have hA := HX.out.2.1.later b6
    have c0 := (hA.2 0 _ rfl).1
    have c1 := (hA.2 1 _ rfl).1
    have hcv := HCV.out
    go_wp2_with fail
    refine HT3.out.mono ?_
    rintro e w6 ⟨x0, hx0, rfl, hb⟩
    have hbx := bel1 w6 (.cells #[.int .i64 0, .int .i64 0, .int .i64 0, .int .i64 0, .int .i64 0, .int .i64 0, .int .i64 0, .int .i64 0, .int .i64 0, .int .i64 0, .int .i64 0, .bool false, .bool false, .bool false, .slice none 0 0, .string ⟨#[]⟩] 28)
    clear hcv
    go_wp2
    go_meet
    case rel => exact ⟨w6.heap.size, x0, rfl, rfl, hx0, bt (bt b6 hb) hbx⟩
  case rest =>
  clear HT3 HCV b6
  obtain ⟨B12, x0, rfl, rfl, hx0, b6⟩ := hcut
  replace HX : Hid (Below W3.heap.size W3 wc ∧ Below w.heap.size w W3 ∧ At W3 w.heap.size #[.int .i64 f, .int .i64 t] ∧ At W3 (w.heap.size + 1) #[.int .i64 s.fr, .int .i64 s.dt, .int .i64 s.sq, .int .i64 s.ak, .int .i64 s.fl, .int .i64 s.wi, .int .i64 s.ur, .int .i64 s.o.m, .int .i64 s.o.c, .int .i64 s.o.t, .int .i64 s.o.ec, .bool s.o.sd, .bool s.o.ok, .bool s.o.sp, v, .string s.da] ∧ At W3 B9 #[.int .i64 s.fr, .int .i64 s.dt, .int .i64 s.sq, .int .i64 s.ak, .int .i64 s.fl, .int .i64 s.wi, .int .i64 s.ur, .int .i64 s.o.m, .int .i64 s.o.c, .int .i64 s.o.t, .int .i64 s.o.ec, .bool s.o.sd, .bool s.o.ok, .bool s.o.sp, (.slice a1 s.o.rs.length cap1), .string s.da] ∧ Rgs W3 (.slice a1 s.o.rs.length cap1) s.o.rs) := ⟨b6, HX.out⟩
  clear b6 hKB hz2 hz3 hKi
  go_wp2
  refine wp_region_any (by kernel_rfl) ?_
  refine region_facts (fun W => Below w.heap.size w W ∧ At W w.heap.size #[.int .i64 f, .int .i64 t] ∧ Below wc.heap.size wc W) (GE (fun qq => match qq with | 0 => .pointer (some ⟨w.heap.size, 0, none⟩) | 1 => .int .i64 f | 2 => .int .i64 (KB : Int) | 3 => .int .i64 R32 | 4 => .int .i64 P2 | 5 => .int .i64 F2 | 6 => .pointer (some ⟨w.heap.size, 1, none⟩) | 7 => .int .i64 t | 8 => .string EN | 9 => .tuple #[.agg #[.int .i64 0, .int .i64 0, .int .i64 0, .int .i64 0, .int .i64 0, .int .i64 0, .int .i64 0, .int .i64 0, .int .i64 0, .int .i64 0, .int .i64 0, .bool false, .bool false, .bool false, .slice none 0 0, .string ⟨#[]⟩], .int .i64 20] | 10 => .tuple #[.agg #[.int .i64 0, .int .i64 0, .int .i64 0, .int .i64 0, .int .i64 0, .int .i64 0, .int .i64 0, .int .i64 0, .int .i64 0, .int .i64 0, .int .i64 0, .bool false, .bool false, .bool false, .slice none 0 0, .string ⟨#[]⟩], .int .i64 20] | 11 => .agg #[.int .i64 0, .int .i64 0, .int .i64 0, .int .i64 0, .int .i64 0, .int .i64 0, .int .i64 0, .int .i64 0, .int .i64 0, .int .i64 0, .int .i64 0, .bool false, .bool false, .bool false, .slice none 0 0, .string ⟨#[]⟩] | 12 => .int .i64 20 | 15 => .int .i64 20 | _ => undef) (fun qq => match qq with | 13 => some (fun v W => ∃ p, v = .pointer (some ⟨p, 0, none⟩) ∧ At W p #[.int .i64 0, .int .i64 0, .int .i64 0, .int .i64 0, .int .i64 0, .int .i64 0, .int .i64 0, .int .i64 0, .int .i64 0, .int .i64 0, .int .i64 0, .bool false, .bool false, .bool false, .slice none 0 0, .string ⟨#[]⟩]) | _ => none)) (n := 115) (by kernel_rfl) rfl (by kernel_rfl) (GE_later _ _ (by
      intro i F hF v w w' h hb
      split at hF
      · obtain rfl := Option.some.inj hF
        obtain ⟨p, e, h1⟩ := h
        exact ⟨p, e, h1.later hb⟩
      · cases hF)) ?_ ?_ ⟨(bt HX.out.2.1 HX.out.1).drew, (HX.out.2.2.1.later HX.out.1).later ((Below.refl _ _).drew), (Below.refl _ _).drew⟩ (Nat.le_refl _)
  · clear HX HS HW
    refine ⟨?_, ?_, ?_, ?_, ?_, ?_, ?_, ?_, ?_, ?_, ?_, ?_, ?_, ?_, ?_, ?_, trivial⟩
    · intro ac w1 hS hT hB hD K hK
      rw [if_pos (by rfl)]
      have d3 : ac.tmps.getD 3 undef = .pointer (some ⟨w.heap.size, 0, none⟩) := hB 3 (by kernel_rfl)
      clear hB hD hT
      go_simp
      exact hK _ _ hS (Below.refl _ _) rfl
    · intro ac w1 hS hT hB hD K hK
      rw [if_pos (by rfl)]
      have d70 : ac.tmps.getD 70 undef = .pointer (some ⟨w.heap.size, 0, none⟩) := hD ⟨0, .data⟩ (by simp) rfl _ 70 rfl rfl
      clear hB hD hT
      have hc := (hS.2.1.2 0 _ rfl).1
      go_simp
      exact hK _ _ hS (Below.refl _ _) rfl
    · intro ac w1 hS hT hB hD K hK
      rw [if_pos (by rfl)]
      have d2 : ac.tmps.getD 2 undef = .int .i64 (KB : Int) := hB 2 (by kernel_rfl)
      clear hB hD hT
      go_simp
      exact hK _ _ hS (Below.refl _ _) rfl
    · intro ac w1 hS hT hB hD K hK
      rw [if_pos (by rfl)]
      have d72 : ac.tmps.getD 72 undef = .int .i64 (KB : Int) := hD ⟨2, .data⟩ (by simp) rfl _ 72 rfl rfl
      clear hB hD hT
      go_simp
      exact hK _ _ hS (Below.refl _ _) rfl
    · intro ac w1 hS hT hB hD K hK
      rw [if_pos (by rfl)]
      have d73 : ac.tmps.getD 73 undef = .int .i64 R32 := hD ⟨3, .data⟩ (by simp) rfl _ 73 rfl rfl
      clear hB hD hT
      go_simp
      exact hK _ _ hS (Below.refl _ _) rfl
    · intro ac w1 hS hT hB hD K hK
      rw [if_pos (by rfl)]
      have d71 : ac.tmps.getD 71 undef = .int .i64 f := hD ⟨1, .data⟩ (by simp) rfl _ 71 rfl rfl
      have d74 : ac.tmps.getD 74 undef = .int .i64 P2 := hD ⟨4, .data⟩ (by simp) rfl _ 74 rfl rfl
      clear hB hD hT
      go_simp
      exact hK _ _ hS (Below.refl _ _) rfl
    · intro ac w1 hS hT hB hD K hK
      rw [if_pos (by rfl)]
      have d3 : ac.tmps.getD 3 undef = .pointer (some ⟨w.heap.size, 0, none⟩) := hB 3 (by kernel_rfl)
      clear hB hD hT
      go_simp
      exact hK _ _ hS (Below.refl _ _) rfl
    · intro ac w1 hS hT hB hD K hK
      rw [if_pos (by rfl)]
      have d76 : ac.tmps.getD 76 undef = .pointer (some ⟨w.heap.size, 1, none⟩) := hD ⟨6, .data⟩ (by simp) rfl _ 76 rfl rfl
      clear hB hD hT
      have hc := (hS.2.1.2 1 _ rfl).1
      go_simp
      exact hK _ _ hS (Below.refl _ _) rfl
    · intro ac w1 hS hT hB hD K hK
      rw [if_pos (by rfl)]
      have d7 : ac.tmps.getD 7 undef = .string EN := hB 7 (by kernel_rfl)
      clear hB hD hT
      go_simp
      exact hK _ _ hS (Below.refl _ _) rfl
    · intro ac w1 hS hT hB hD K hK
      rw [if_pos (by rfl)]
      have d75 : ac.tmps.getD 75 undef = .int .i64 F2 := hD ⟨5, .data⟩ (by simp) rfl _ 75 rfl rfl
      have d77 : ac.tmps.getD 77 undef = .int .i64 t := hD ⟨7, .data⟩ (by simp) rfl _ 77 rfl rfl
      have d78 : ac.tmps.getD 78 undef = .string EN := hD ⟨8, .data⟩ (by simp) rfl _ 78 rfl rfl
      clear hB hD hT
      go_simp
      refine (HO.out _ (hG.later hS.1)).mono ?_
      rintro e w' ⟨rfl, hb⟩
      exact hK _ _ ⟨bt hS.1 hb, hS.2.1.later hb, bt hS.2.2 hb⟩ hb rfl
    · intro ac w1 hS hT hB hD K hK
      rw [if_pos (by rfl)]
      have d79 : ac.tmps.getD 79 undef = .tuple #[.agg #[.int .i64 0, .int .i64 0, .int .i64 0, .int .i64 0, .int .i64 0, .int .i64 0, .int .i64 0, .int .i64 0, .int .i64 0, .int .i64 0, .int .i64 0, .bool false, .bool false, .bool false, .slice none 0 0, .string ⟨#[]⟩], .int .i64 20] := hD ⟨9, .data⟩ (by simp) rfl _ 79 rfl rfl
      clear hB hD hT
      go_simp
      exact hK _ _ hS (Below.refl _ _) rfl
    · intro ac w1 hS hT hB hD K hK
      rw [if_pos (by rfl)]
      have d69 : ac.tmps.getD 69 undef = .tuple #[.agg #[.int .i64 0, .int .i64 0, .int .i64 0, .int .i64 0, .int .i64 0, .int .i64 0, .int .i64 0, .int .i64 0, .int .i64 0, .int .i64 0, .int .i64 0, .bool false, .bool false, .bool false, .slice none 0 0, .string ⟨#[]⟩], .int .i64 20] := hD ⟨10, .data⟩ (by simp) rfl _ 69 rfl rfl
      clear hB hD hT
      go_simp
      exact hK _ _ hS (Below.refl _ _) rfl
    · intro ac w1 hS hT hB hD K hK
      rw [if_pos (by rfl)]
      have d69 : ac.tmps.getD 69 undef = .tuple #[.agg #[.int .i64 0, .int .i64 0, .int .i64 0, .int .i64 0, .int .i64 0, .int .i64 0, .int .i64 0, .int .i64 0, .int .i64 0, .int .i64 0, .int .i64 0, .bool false, .bool false, .bool false, .slice none 0 0, .string ⟨#[]⟩], .int .i64 20] := hD ⟨10, .data⟩ (by simp) rfl _ 69 rfl rfl
      clear hB hD hT
      go_simp
      exact hK _ _ hS (Below.refl _ _) rfl
    · intro ac w1 hS hT hB hD K hK
      rw [if_pos (by rfl)]
      clear hB hD hT
      go_simp
      have hb := bel1 w1 (.cells #[.int .i64 0, .int .i64 0, .int .i64 0, .int .i64 0, .int .i64 0, .int .i64 0, .int .i64 0, .int .i64 0, .int .i64 0, .int .i64 0, .int .i64 0, .bool false, .bool false, .bool false, .slice none 0 0, .string ⟨#[]⟩] 28)
      exact hK _ _ ⟨bt hS.1 hb, hS.2.1.later hb, bt hS.2.2 hb⟩ hb ⟨w1.heap.size, rfl, At.box w1 #[.int .i64 0, .int .i64 0, .int .i64 0, .int .i64 0, .int .i64 0, .int .i64 0, .int .i64 0, .int .i64 0, .int .i64 0, .int .i64 0, .int .i64 0, .bool false, .bool false, .bool false, .slice none 0 0, .string ⟨#[]⟩] 28⟩
    · intro ac w1 hS hT hB hD K hK
      rw [if_pos (by rfl)]
      obtain ⟨p, d14, hP⟩ := hD ⟨13, .data⟩ (by simp) rfl _ 14 rfl rfl
      have d80 : ac.tmps.getD 80 undef = .agg #[.int .i64 0, .int .i64 0, .int .i64 0, .int .i64 0, .int .i64 0, .int .i64 0, .int .i64 0, .int .i64 0, .int .i64 0, .int .i64 0, .int .i64 0, .bool false, .bool false, .bool false, .slice none 0 0, .string ⟨#[]⟩] := hD ⟨11, .data⟩ (by simp) rfl _ 80 rfl rfl
      clear hB hD hT
      refine wp_store_mid 28 (.tmp 14) (.tmp 80) rfl p 0 #[.int .i64 0, .int .i64 0, .int .i64 0, .int .i64 0, .int .i64 0, .int .i64 0, .int .i64 0, .int .i64 0, .int .i64 0, .int .i64 0, .int .i64 0, .bool false, .bool false, .bool false, .slice none 0 0, .string ⟨#[]⟩] d14 d80 hP.there size28 (by simp [Value.oneCell']) ?_
      rw [setCells_id _ _ _ _ hP.range]
      exact hK _ _ hS (Below.refl _ _) rfl
    · intro ac w1 hS hT hB hD K hK
      rw [if_pos (by rfl)]
      have d81 : ac.tmps.getD 81 undef = .int .i64 20 := hD ⟨12, .data⟩ (by simp) rfl _ 81 rfl rfl
      clear hB hD hT
      go_simp
      exact hK _ _ hS (Below.refl _ _) rfl
  · intro ac w9 hS hT hdf hB hF
    skip
    have hfr : ac.tmps = #[.agg #[.int .i64 f, .int .i64 t], .agg #[.int .i64 s.fr, .int .i64 s.dt, .int .i64 s.sq, .int .i64 s.ak, .int .i64 s.fl, .int .i64 s.wi, .int .i64 s.ur, .int .i64 s.o.m, .int .i64 s.o.c, .int .i64 s.o.t, .int .i64 s.o.ec, .bool s.o.sd, .bool s.o.ok, .bool s.o.sp, v, .string s.da], .int .i64 (KB : Int), .pointer (some ⟨w.heap.size, 0, none⟩), .pointer (some ⟨w.heap.size + 1, 0, none⟩), undef, .bool false, .string EN, .int .i64 0, .pointer (some ⟨B9, 0, none⟩), .int .i64 0, .slice (some ⟨W3.heap.size, 0, none⟩) EN.size cc, .pointer (some ⟨B12, 0, none⟩), .int .i64 x0, (ac.tmps.getD 14 undef), (ac.tmps.getD 15 undef), undef, undef, u18, u19, u20, u21, u22, u23, u24, u25, u26, u27, u28, u29, u30, u31, u32, u33, u34, u35, u36, u37, u38, u39, u40, u41, u42, u43, u44, u45, u46, u47, u48, u49, u50, u51, u52, u53, u54, u55, u56, u57, u58, u59, u60, u61, u62, u63, u64, u65, u66, u67, u68, (ac.tmps.getD 69 undef), (ac.tmps.getD 70 undef), (ac.tmps.getD 71 undef), (ac.tmps.getD 72 undef), (ac.tmps.getD 73 undef), (ac.tmps.getD 74 undef), (ac.tmps.getD 75 undef), (ac.tmps.getD 76 undef), (ac.tmps.getD 77 undef), (ac.tmps.getD 78 undef), (ac.tmps.getD 79 undef), (ac.tmps.getD 80 undef), (ac.tmps.getD 81 undef), u82, u83, u84, u85, u86, u87, u88, u89, u90, u91, u92, u93, u94, u95, u96, u97, u98, u99, u100, u101, u102, u103, u104, u105, u106, u107, u108, u109, u110, u111, u112, u113, u114] := (frame_eq hT rfl hB).trans (by kernel_rfl)
    obtain ⟨T, df⟩ := ac
    have s15 : T.getD 15 undef = .int .i64 20 := hF 15 _ 15 rfl rfl
    have sdf : df = [] := hdf
    simp only at hfr
    clear hB hF hT hdf
    generalize T.getD 70 undef = y70 at *
    generalize T.getD 71 undef = y71 at *
    generalize T.getD 72 undef = y72 at *
    generalize T.getD 73 undef = y73 at *
    generalize T.getD 74 undef = y74 at *
    generalize T.getD 75 undef = y75 at *
    generalize T.getD 76 undef = y76 at *
    generalize T.getD 77 undef = y77 at *
    generalize T.getD 78 undef = y78 at *
    generalize T.getD 79 undef = y79 at *
    generalize T.getD 69 undef = y69 at *
    generalize T.getD 80 undef = y80 at *
    generalize T.getD 81 undef = y81 at *
    generalize T.getD 14 undef = y14 at *
    generalize T.getD 15 undef = y15 at *
    subst hfr s15 sdf
    have hl := bt HX.out.2.1 (bt HX.out.1 hS.2.2)
    have hA := HX.out.2.2.1.later (bt HX.out.1 hS.2.2)
    have hQ := HX.out.2.2.2.1.later (bt HX.out.1 hS.2.2)
    have hX := HX.out.2.2.2.2.1.later (bt HX.out.1 hS.2.2)
    have hu := HX.out.2.2.2.2.2.later (bt HX.out.1 hS.2.2)
    clear HX hS HO
    have c0 := (hA.2 0 _ rfl).1
    have c1 := (hA.2 1 _ rfl).1
    go_wp2_with fail
    refine (HW.out _ (hG.later hl)).mono ?_
    rintro e w4 ⟨u2, rfl, hu2, hb⟩
    obtain ⟨a2, cap2, hue, -⟩ := id hu2
    subst hue
    have hbx := bel1 w4 (.cells #[.int .i64 s.fr, .int .i64 s.dt, .int .i64 s.sq, .int .i64 s.ak, .int .i64 s.fl, .int .i64 s.wi, .int .i64 s.ur, .int .i64 s.o.m, .int .i64 s.o.c, .int .i64 s.o.t, .int .i64 s.o.ec, .bool s.o.sd, .bool s.o.ok, .bool s.o.sp, (.slice a2 s.o.rs.length cap2), .string s.da] 28)
    have hY := At.box w4 #[.int .i64 s.fr, .int .i64 s.dt, .int .i64 s.sq, .int .i64 s.ak, .int .i64 s.fl, .int .i64 s.wi, .int .i64 s.ur, .int .i64 s.o.m, .int .i64 s.o.c, .int .i64 s.o.t, .int .i64 s.o.ec, .bool s.o.sd, .bool s.o.ok, .bool s.o.sp, (.slice a2 s.o.rs.length cap2), .string s.da] 28
    replace hl := bt (bt hl hb) hbx
    replace hQ := hQ.later (bt hb hbx)
    replace hX := hX.later (bt hb hbx)
    replace hu := hu.later (bt hb hbx)
    replace hu2 := hu2.later hbx
    clear hb HW c0 c1 hA
    go_upto_region 13 with fail
    obtain ⟨B16, hB16⟩ : ∃ B, B = w4.heap.size := ⟨_, rfl⟩
    rw [← hB16] at hY ⊢
    generalize w4.alloc (.cells #[.int .i64 s.fr, .int .i64 s.dt, .int .i64 s.sq, .int .i64 s.ak, .int .i64 s.fl, .int .i64 s.wi, .int .i64 s.ur, .int .i64 s.o.m, .int .i64 s.o.c, .int .i64 s.o.t, .int .i64 s.o.ec, .bool s.o.sd, .bool s.o.ok, .bool s.o.sp, (.slice a2 s.o.rs.length cap2), .string s.da] 28) = w5 at *
    clear hbx hB16
    go_wp2_with (first | (refine wpList_loadG 28 _ (by rfl) (by rfl) (B9) 0 (by rfl) _ _ hX.range Tryd.underlying28 rfl size28 ?_) | (refine wpList_loadG 28 _ (by rfl) (by rfl) (w.heap.size + 1) 0 (by rfl) _ _ hQ.range Tryd.underlying28 rfl size28 ?_))
    refine (HS.out _ _ hu (hv.later hl)).mono ?_
    rintro e w6 ⟨rfl, hb⟩
    replace hl := bt hl hb
    replace hQ := hQ.later hb
    replace hY := hY.later hb
    replace hu2 := hu2.later hb
    clear hb hX hu
    go_wp2_with (first | (refine wpList_loadG 28 _ (by rfl) (by rfl) (B16) 0 (by rfl) _ _ hY.range Tryd.underlying28 rfl size28 ?_) | (refine wpList_loadG 28 _ (by rfl) (by rfl) (w.heap.size + 1) 0 (by rfl) _ _ hQ.range Tryd.underlying28 rfl size28 ?_))
    refine (HS.out _ _ hu2 (hv.later hl)).mono ?_
    rintro e w7 ⟨rfl, hb⟩
    go_wp2
    go_ret
    exact ⟨rfl, bt hl hb⟩
theorem walk (f t : Int) (s : Sg) (v : Value) (bit : Int) (w : World) (hG : Ord w) (h0 : (Lit.int .i64 f).wf = true) (h1 : (Lit.int .i64 t).wf = true) (hv : Rgs w v s.o.rs) (hz : s.o.rs.length * 16 ≤ 140737488351232) (hd : s.da.size ≤ 140737488351232) (h2 : (Lit.int .i64 bit).wf = true) :
    Calls Tryd.prog 6 #[.agg #[.int .i64 f, .int .i64 t], .agg #[.int .i64 s.fr, .int .i64 s.dt, .int .i64 s.sq, .int .i64 s.ak, .int .i64 s.fl, .int .i64 s.wi, .int .i64 s.ur, .int .i64 s.o.m, .int .i64 s.o.c, .int .i64 s.o.t, .int .i64 s.o.ec, .bool s.o.sd, .bool s.o.ok, .bool s.o.sp, v, .string s.da], .int .i64 bit] w fun e w' => e = .returned (.bool true) ∧ Below w.heap.size w w' := by
  have hn : s.o.rs.length ≤ 17592186044416 := by omega
  rcases Bool.eq_false_or_eq_true (numB f && numB t) with h | h
  case inr => exact walk_n f t s v bit 1 w hG hv rfl (fun W h3 h4 => encs_r f t s v W h)
  rcases Bool.eq_false_or_eq_true (mayG s) with hm | hm
  case inr => exact walk_n f t s v bit 80 w hG hv rfl (fun W h3 h4 => encs_n f t s v W h3 hn h4 h hm)
  obtain ⟨hf, ht⟩ : numB f = true ∧ numB t = true := by simpa using h
  have hb := lenS_bd hm
  have hzE := encS_size f t s
  obtain ⟨m, rfl⟩ := Int.eq_ofNat_of_zero_le (show 0 ≤ f by have := of_decide_eq_true hf; omega)
  have hm2 : m < 4294967296 := by have := of_decide_eq_true hf; omega
  have hp := Int.emod_nonneg bit (show 8 * ((encS (m : Int) t s).size : Int) ≠ 0 by omega)
  obtain ⟨KB, hKB⟩ := Int.eq_ofNat_of_zero_le hp
  have hk32 : KB % 32 < 32 := Nat.mod_lt _ (by omega)
  have hpow : 2 ^ (KB % 32) < 2 ^ 32 := Nat.pow_lt_pow_right (by decide) hk32
  have hpow' : 2 ^ (KB % 32) < 4294967296 := hpow
  have hok : ∀ (r : Except Int Sg) (W : World) (e : Ending) (w' : World), r = .ok s → DecS r W e w' → ∃ v, e = .returned (.tuple #[.agg #[.int .i64 s.fr, .int .i64 s.dt, .int .i64 s.sq, .int .i64 s.ak, .int .i64 s.fl, .int .i64 s.wi, .int .i64 s.ur, .int .i64 s.o.m, .int .i64 s.o.c, .int .i64 s.o.t, .int .i64 s.o.ec, .bool s.o.sd, .bool s.o.ok, .bool s.o.sp, v, .string s.da], .int .i64 0]) ∧ Rgs w' v s.o.rs ∧ Below W.heap.size W w' := fun r W e w' hr h => by
    subst hr
    obtain ⟨v, h1, h2, h3⟩ := h
    exact ⟨v, h1, h2.rgs, h3⟩
  refine walk_y (m : Int) t s v bit (encS (m : Int) t s) KB ((KB % 32 : Nat) : Int) ((2 ^ (KB % 32) : Nat) : Int) ((m ^^^ 2 ^ (KB % 32) : Nat) : Int) w hG hv (by omega) (by omega) hKB ?_ ?_ (by omega) (by omega) ?_ ?_
    (fun W h3 h4 => encs_y (m : Int) t s v W h3 h4 h hm) (fun W h3 => (decs_any (m : Int) t _ W h3 (by omega)).mono fun e w' h4 => hok _ W e w' (back_ok hm h) h4) (fun W c i j hi h3 hj hc => ?_) (fun W h3 => ?_)
    (fun W h3 => (decs_any t (m : Int) _ W h3 (by omega)).mono fun e w' h4 => hok _ W e w' (swap_ok hm h) h4) (fun W u h3 h4 => ?_)
  · rw [Int.tmod_eq_emod_of_nonneg (by omega)]; omega
  · rw [IntKind.wrap_i64]; omega
  · rw [Int.toNat_natCast, IntKind.wrap_i64, show (2 : Int) ^ (KB % 32) = ((2 ^ (KB % 32) : Nat) : Int) by rw [Int.natCast_pow]; rfl]
    generalize 2 ^ (KB % 32) = pp at *
    omega
  · exact i64_xor_nat m (2 ^ (KB % 32)) (by omega) (by omega)
  · have hcz : c.size = (encS (m : Int) t s).size := by rw [← len_toList, ← len_toList, hc, List.length_set]
    obtain ⟨x, hx, hx0⟩ := turned_none (m : Int) t c i j hj (by rw [len_toList]; exact hi) h hc
    refine (decs_any (m : Int) t c W h3 (by omega)).mono fun e w' h4 => ?_
    rw [hx] at h4
    exact ⟨x, by rw [bne, hx0]; rfl, h4.1, h4.2⟩
  · refine (decs_any ((m ^^^ 2 ^ (KB % 32) : Nat) : Int) t _ W h3 (by omega)).mono fun e w' h4 => ?_
    rw [other_none m t (KB % 32) hk32 hm hm2 ht] at h4
    exact h4
  · have := same_s s s u v W h3 h4 hn hn
    rw [sameG_refl] at this
    exact this

theorem lifted (os : Os) (started : os.Started) (H : Type) (enc : TypeId × Value → H) :
    ReturnsInHanded {} Tryd.checked os 6 .any (fun w args => (Rows.segBackSpec.pre enc Tryd.prog Tryd.f6 [] false w args ∧ laidMetH Tryd.prog laidL w) ∧ sizedMet enc Tryd.prog Tryd.f6 (OpenSpec.ofChange Rows.segBackSpec) false w args)
      (Rows.segBackSpec.post enc Tryd.prog Tryd.f6 false true false false) := by
  refine returnsInHanded_of_change_and (C := Tryd.checked) (X := fun w _ => laidMetH Tryd.prog laidL w) (fun _ _ _ hh h => h.of_heap hh) ownK started (by kernel_rfl) Tryd.func6
    (ChangeSpec.witness_shaped (enc := enc) (C := Tryd.checked) (os := os) (X := fun w _ => laidMetH Tryd.prog laidL w) false (World.doorLaid Tryd.prog 400 os) #[.agg #[.int .i64 0, .int .i64 0], .agg #[.int .i64 0, .int .i64 0, .int .i64 0, .int .i64 0, .int .i64 0, .int .i64 0, .int .i64 0, .int .i64 0, .int .i64 0, .int .i64 0, .int .i64 0, .bool false, .bool false, .bool false, .slice none 0 0, .string ByteArray.empty], .int .i64 0] 8 rfl (World.shaped_of_RefB (by kernel_rfl) (by kernel_rfl)) (by kernel_rfl) (by kernel_rfl) (by kernel_rfl) (door_met os _)) ?_
  intro W base args ds gs before hval0 hW hcnd hsz0 hL _
  have hG := ord_of hL
  have hsz : (DataW.weightsEach Tryd.prog (Tryd.f6.params.toList ++ Rows.segBackSpec.plain.varTypes Tryd.prog) (ds ++ gs)).all (· ≤ reachBytes) = true := hsz0
  have hval : ∀ (j : Nat) t v, Tryd.f6.params[j]? = some t → args[j]? = some v → Value.okWide Tryd.prog W .any base t v := hval0
  have hW' := hW
  obtain ⟨p, q, hA0, hV, rfl, hfz, hnd⟩ := hW
  have hA : DataW.TrodAll enc Tryd.prog W 0 (fun _ => true) true Tryd.f6.params.toList args.toList ds p := hA0
  rw [Tryd.params6] at hA hval hsz
  obtain ⟨v0, vs0, d0, ds0, p0, q0, hargs, rfl, rfl, h0, r0⟩ := trodAll_cons hA
  obtain ⟨v1, vs1, d1, ds1, p1, q1, rfl, rfl, rfl, h1, r1⟩ := trodAll_cons r0
  obtain ⟨v2, vs2, d2, ds2, p2, q2, rfl, rfl, rfl, h2, r2⟩ := trodAll_cons r1
  obtain ⟨rfl, rfl, rfl⟩ := trodAll_nil r2
  obtain rfl : args = #[v0, v1, v2] := by cases args; simp_all
  obtain ⟨rfl, rfl⟩ := trodVars_none hV
  have k0 := h0
  have lt0 : ∀ x ∈ p0, x.block < W.heap.size := by obtain ⟨m, hm⟩ := k0; exact DataW.trod_lt m _ _ _ hm
  have k1 := h1
  have lt1 : ∀ x ∈ p1, x.block < W.heap.size := by obtain ⟨m, hm⟩ := k1; exact DataW.trod_lt m _ _ _ hm
  have k2 := h2
  have lt2 : ∀ x ∈ p2, x.block < W.heap.size := by obtain ⟨m, hm⟩ := k2; exact DataW.trod_lt m _ _ _ hm
  obtain ⟨f0, g0, rfl, e0, c0⟩ := open23 (hval 0 23 v0 rfl rfl) h0
  obtain ⟨s1, u1, parts1, oparts1, rfl, hdp1, hp7_1, hp8_1, hr1, hw1⟩ := open28 (hval 1 28 v1 rfl rfl) h1
  have z1 := sized_28 hsz (j := 1) rfl (by rw [hdp1]; rfl) hp7_1 hp8_1 hw1
  obtain ⟨a2, rfl, -, -, w2⟩ := open_int Tryd.underlying3 (hval 2 3 v2 rfl rfl) h2
  clear hA0 hval0
  refine (walk f0 g0 s1 u1 a2 W hG e0 c0 hr1 z1.1 z1.2 w2).mono fun e W' ⟨he, bel⟩ => ?_
  subst he
  exact ⟨_, rfl, _, _, _, [], _, [], hW', trodAll_mk1 (shut_bool Tryd.underlying4 _), (trodAll_cons_mk (Below.trod laidOutK (by kernel_rfl) (of_decide_eq_true (by kernel_rfl)) k0 bel lt0) (trodAll_cons_mk (Below.trod laidOutK (by kernel_rfl) (of_decide_eq_true (by kernel_rfl)) k1 bel lt1) (trodAll_cons_mk (Below.trod laidOutK (by kernel_rfl) (of_decide_eq_true (by kernel_rfl)) k2 bel lt2) trodAll_mk0))), rfl, bel.frame _, fun h => by cases h⟩

theorem over : Rows.segBackRow.holds Tryd.pinned (OpenSpec.ofChange Rows.segBackSpec) :=
  OpenClaim.holds_of_wide 6 Tryd.f6 rfl rfl rfl rfl rfl rfl rfl ⟨rfl, rfl, rfl, rfl, rfl⟩ rfl rfl rfl rfl rfl (by kernel_rfl) Tryd.func6 (by kernel_rfl)
    (of_decide_eq_true (by kernel_rfl)) (by unfold Func.isWrapper; first | (rw [if_pos (by decide +kernel)]; kernel_rfl) | (rw [if_neg (by decide +kernel)]; exact ⟨rfl, rfl⟩))
    (fun os started H enc _ => lifted os started H enc)

end Go.Proofs.YtecoknenkjgmjabDoor.segBack
namespace Go.Proofs.YtecoknenkjgmjabDoor
open Go
theorem segBack_card_holds : Rows.SegBackCardSaid :=
  Claim7.holds_tied_plain_at .later [] [.data] true (true, "7a383cbcafb2e437da8d427f08dd0d5acda387abc0a856b5ba63ec94711a83ec") false
    segBack.over (fun _ h => by cases h) (by kernel_rfl) (fun _ h => by cases h) segBack_row_tie rfl ⟨rfl, rfl⟩ (by kernel_rfl) rfl
    (fun f fn hf hfn => by
      obtain rfl : f = 6 := Option.some.inj ((show Tryd.prog.funcNamed "sternpost/sternpostlaw08.SegBack" = some 6 by kernel_rfl).symm.trans hf) |>.symm
      obtain rfl : fn = Tryd.f6 := (Option.some.inj (Tryd.func6.symm.trans hfn)).symm
      exact ⟨by kernel_rfl, fun j t ht => by
        rw [Tryd.params6] at ht
        have hm : t ∈ [23, 28, 3] := by simpa using Array.mem_of_getElem? ht
        have hall : ([23, 28, 3].all fun u => !Tryd.prog.wantsStandIn u) = true := by kernel_rfl
        exact (show Tryd.prog.wantsStandIn t = false by simpa using List.all_eq_true.1 hall t hm)⟩)
    (by kernel_rfl)
end Go.Proofs.YtecoknenkjgmjabDoor
