/- An event's bytes; the chapter's example. -/
import Derived.Test.YtgjkplkghoeeeaaEd
import Derived.Test.YtgjkplkghoeeeaaBu
import Derived.Test.YtgjkplkghoeeeaaSj
import Derived.Lib.Join
namespace Go.Proofs.Ytgjkplkghoeeeaa
open Go.RowKit Go.Maps
set_option maxRecDepth 100000
set_option linter.unusedVariables false
set_option linter.unusedSimpArgs false


theorem join4 (a b c d : List UInt8) : Go.Lib.join [a, b, c, d] [] = a ++ (b ++ (c ++ d)) := by
  rw [Go.Lib.join_cons]
  unfold Go.Lib.joinTail
  simp
theorem join_call (a b c d : ByteArray) (w : World) (hl : a.size + b.size + c.size + d.size ≤ 1000000) :
    Calls Try.prog 35 #[.slice (some ⟨w.heap.size, 0, none⟩) 4 4, .string ⟨#[]⟩] (w.alloc (.cells #[.string a, .string b, .string c, .string d] 9)) fun e w' => e = .returned (.string (a ++ b ++ c ++ d)) ∧ Below w.heap.size w w' := by
  have hA := At.box w #[.string a, .string b, .string c, .string d] 9
  have e1 : Go.Lib.join ([a, b, c, d].map (fun x : ByteArray => x.data.toList)) (⟨#[]⟩ : ByteArray).data.toList = (a ++ b ++ c ++ d).data.toList := by
    rw [app_toList, app_toList, app_toList]
    simp only [List.map_cons, List.map_nil, List.append_assoc]
    exact join4 _ _ _ _
  have := Try.strings_Join w.heap.size 0 4 [a, b, c, d] ⟨#[]⟩ (w.alloc (.cells #[.string a, .string b, .string c, .string d] 9)) (fun j x hj => by
    rw [Nat.zero_add]
    refine (hA.2 j (.string x) ?_).1
    match j, hj with
    | 0, hj => cases hj; rfl
    | 1, hj => cases hj; rfl
    | 2, hj => cases hj; rfl
    | 3, hj => cases hj; rfl
    | j + 4, hj => simp at hj) (by rw [World.size_alloc]; omega) (by simp) (by simp) (by
      rw [e1, len_toList, ByteArray.size_append, ByteArray.size_append, ByteArray.size_append]; omega)
  rw [e1] at this
  refine this.mono ?_
  rintro e w' ⟨rfl, hb⟩
  exact ⟨rfl, bt (bel1 w _) hb⟩
theorem put_at (n k : Int) (w : World) (k0 : 1 ≤ k) (k1 : k ≤ 6) (h0 : 0 ≤ n) (h1 : n < 2 ^ (8 * k.toNat)) :
    Calls Try.prog 34 #[.int .i64 n, .int .i64 k] w fun e w' => e = .returned (.tuple #[.string (txt n k.toNat), .int .i64 0]) ∧ Below w.heap.size w w' := by
  have := pput_any n k w
  have hb : putB n k = true := putB_t ⟨k0, k1, h0, h1⟩
  rw [putV, if_pos hb, hb] at this
  exact this
set_option maxHeartbeats 1000000 in
theorem encode_any (k t : Int) (d : ByteArray) (w : World) (h : mayE ⟨k, t, d⟩ = true) :
    Calls Try.prog 27 #[.agg #[.int .i64 k, .int .i64 t, .string d]] w fun e w' => e = .returned (.string (encE ⟨k, t, d⟩)) ∧ Below w.heap.size w w' := by
  obtain ⟨t0, t1, hk⟩ := mayE_parts h
  have hz := mayE_size h
  simp only at t0 t1 hk hz
  have k0 : 0 ≤ k ∧ k < 256 := by omega
  have hA := At.box w #[.int .i64 k, .int .i64 t, .string d] 23
  have hl := bel1 w (.cells #[.int .i64 k, .int .i64 t, .string d] 23)
  have p1 := fun W => put_at k 1 W (by decide) (by decide) k0.1 k0.2
  have p2 := fun W => put_at t 6 W (by decide) (by decide) t0 (by show t < 2 ^ 48; omega)
  have p3 := fun W => put_at d.size 2 W (by decide) (by decide) (by omega) (by show (d.size : Int) < 2 ^ 16; omega)
  show Calls Try.prog 27 #[.agg #[.int .i64 k, .int .i64 t, .string d]] w fun e w' => e = .returned (.string (txt k (1 : Int).toNat ++ txt t (6 : Int).toNat ++ txt d.size (2 : Int).toNat ++ d)) ∧ Below w.heap.size w w'
  have z1 : (txt k (1 : Int).toNat).size = 1 := txt_size _ _
  have z2 : (txt t (6 : Int).toNat).size = 6 := txt_size _ _
  have z3 : (txt d.size (2 : Int).toNat).size = 2 := txt_size _ _
  generalize txt k (1 : Int).toNat = x1 at *
  generalize txt t (6 : Int).toNat = x2 at *
  generalize txt d.size (2 : Int).toNat = x3 at *
  clear h hk k0 t0 t1
  go_enter Try.func27, Try.ntmps27
  obtain ⟨⟨c0, c1, c2⟩, -, -⟩ := hA.three
  go_wp2_with fail
  refine (p1 _).mono ?_
  rintro e w1 ⟨rfl, h1⟩
  have hl := bt hl h1
  have hA := hA.later h1
  clear h1 c0 c1 c2
  obtain ⟨⟨c0, c1, c2⟩, -, -⟩ := hA.three
  go_wp2_with fail
  refine (p2 _).mono ?_
  rintro e w2 ⟨rfl, h2⟩
  have hl := bt hl h2
  have hA := hA.later h2
  clear h2 c0 c1 c2
  obtain ⟨⟨c0, c1, c2⟩, -, -⟩ := hA.three
  go_wp2_with fail
  refine (p3 _).mono ?_
  rintro e w3 ⟨rfl, h3⟩
  have hl := bt hl h3
  have hA := hA.later h3
  clear h3 c0 c1 c2 p1 p2 p3
  obtain ⟨⟨c0, c1, c2⟩, -, -⟩ := hA.three
  have hj := join_call x1 x2 x3 d w3 (by omega)
  clear hA
  go_wp2_with fail
  refine hj.mono ?_
  rintro e w4 ⟨rfl, h4⟩
  go_wp2
  go_ret
  exact ⟨rfl, bt hl h4⟩
theorem enc_any (k t : Int) (d : ByteArray) (w : World) (hd : d.size ≤ maxLen) :
    Calls Try.prog 6 #[.agg #[.int .i64 k, .int .i64 t, .string d]] w fun e w' => e = .returned (.tuple #[.string (encV ⟨k, t, d⟩), .int .i64 (codeE ⟨k, t, d⟩)]) ∧ Below w.heap.size w w' := by
  have hA := At.box w #[.int .i64 k, .int .i64 t, .string d] 23
  obtain ⟨⟨c0, c1, c2⟩, -, -⟩ := hA.three
  have hbel := bel1 w
  rcases Bool.eq_false_or_eq_true (mayE ⟨k, t, d⟩) with h | h
  · rw [codeE_t h, encV_t h]
    go_enter Try.func6, Try.ntmps6
    go_wp2_with fail
    refine (check_any _ _ _ _ hd).mono ?_
    rw [codeE_t h]
    rintro e w1 ⟨rfl, hb1⟩
    clear c0 c1 c2
    obtain ⟨⟨c0, c1, c2⟩, -, -⟩ := (hA.later hb1).three
    go_wp2_with fail
    refine (encode_any _ _ _ _ h).mono ?_
    rintro e w2 ⟨rfl, hb2⟩
    go_wp2
    go_ret2
    exact ⟨rfl, bt (bt (hbel _) hb1) hb2⟩
  · rw [codeE_f h, encV_f h]
    go_enter Try.func6, Try.ntmps6
    go_wp2_with fail
    refine (check_any _ _ _ _ hd).mono ?_
    rw [codeE_f h]
    rintro e w1 ⟨rfl, hb1⟩
    go_wp2
    go_ret2
    exact ⟨rfl, bt (hbel _) hb1⟩

theorem ex_is : encV ⟨2, 5, ⟨#[]⟩⟩ = ⟨#[2, 0, 0, 0, 0, 0, 5, 0, 0]⟩ ∧ codeE ⟨2, 5, ⟨#[]⟩⟩ = 0 := by decide +kernel
theorem works_any (w : World) : Calls Try.prog 15 #[] w fun e w' => e = .returned (.bool true) ∧ Below w.heap.size w w' := by
  have he := fun W => enc_any 2 5 ⟨#[]⟩ W (by decide)
  rw [ex_is.1, ex_is.2] at he
  go_enter Try.func15, Try.ntmps15
  go_wp2_with fail
  refine (he _).mono ?_
  rintro e w1 ⟨rfl, hb1⟩
  go_wp2
  go_ret
  exact ⟨rfl, hb1⟩
end Go.Proofs.Ytgjkplkghoeeeaa
