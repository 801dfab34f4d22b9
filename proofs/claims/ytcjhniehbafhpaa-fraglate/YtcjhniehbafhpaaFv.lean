/- The chapter's example. -/
import Derived.Test.YtcjhniehbafhpaaFu
namespace Go.Proofs.Ytcjhniehbafhpaa
open Go.RowKit Go.Maps
set_option maxRecDepth 100000
set_option linter.unusedVariables false
set_option linter.unusedSimpArgs false

def p1 : Pk := ⟨1, 2, 9, 0, 0, 0, false, false, ⟨#[]⟩, ⟨#[48, 49, 50, 51, 52, 53, 54, 55, 56, 57]⟩⟩
theorem p1x : Cx p1 8 1 := ⟨by decide, by decide, by decide, by decide, by decide, rfl, rfl, by decide, by decide⟩
theorem p1cut : Cuts 1 2 9 0 0 0 false false ⟨#[]⟩ ⟨#[48, 49, 50, 51, 52, 53, 54, 55, 56, 57]⟩ 28 0 (allP p1 8) := by
  unfold Cuts
  refine Or.inr ⟨by decide, Or.inr (Or.inr ⟨⟨by decide, by decide⟩, Or.inr ⟨by decide, Or.inr ⟨rfl, ?_, rfl⟩⟩⟩)⟩
  rfl
/-- A fresh box. -/
theorem bx_new {w : World} {R B M : Nat} {ro pa : Int} (hA : At w B #[.int .i64 ro, .int .i64 pa, .int .i64 0, .int .i64 0, .map (some M)]) (hG : GM w M []) (h1 : B < R) (h2 : M < R) (h3 : R ≤ w.heap.size) (h4 : B ≠ M) (m : Mk) : OneB w R B M ro pa 0 0 m [] :=
  Or.inl ⟨rfl, ⟨hA, hG, (fun x hx => by cases hx), List.Pairwise.nil, h1, h2, h3, h4⟩⟩
theorem one_len {w : World} {R B M : Nat} {ro pa la tu : Int} {m : Mk} (h : OneB w R B M ro pa la tu m []) : Calls Try.prog 15 #[.pointer (some ⟨B, 0, none⟩)] w fun e w' => e = .returned (.int .i64 0) ∧ w' = w := by
  rcases h with ⟨-, h⟩ | ⟨h, -⟩
  · exact len_any h
  · exact absurd rfl h
set_option maxHeartbeats 8000000 in
theorem works_any (w : World) : Calls Try.prog 9 #[] w fun e w' => e = .returned (.bool true) ∧ Below w.heap.size w w' := by
  go_enter Try.func9, Try.ntmps9
  go_wp2_with fail
  refine (new_t 4 10 w (by decide) (by decide) (by decide) (by decide)).mono ?_
  rintro e w1 ⟨rfl, hA, hG, l1⟩
  have hone : (#[.int .i64 1, .int .i64 2, .int .i64 9, .int .i64 0, .int .i64 0, .int .i64 0, .bool false, .bool false, .string ⟨#[]⟩, .string ⟨#[48, 49, 50, 51, 52, 53, 54, 55, 56, 57]⟩] : Array Value).all (·.oneCell') = true := by simp [Value.oneCell']
  have hB1 := hA.1
  go_upto_region 5 with (first
    | (refine wpList_store_at rfl 32 _ _ rfl _ w1.heap.size #[.int .i64 0, .int .i64 0, .int .i64 0, .int .i64 0, .int .i64 0, .int .i64 0, .bool false, .bool false, .string ⟨#[]⟩, .string ⟨#[]⟩] #[.int .i64 1, .int .i64 2, .int .i64 9, .int .i64 0, .int .i64 0, .int .i64 0, .bool false, .bool false, .string ⟨#[]⟩, .string ⟨#[48, 49, 50, 51, 52, 53, 54, 55, 56, 57]⟩] rfl rfl (At.box w1 #[.int .i64 0, .int .i64 0, .int .i64 0, .int .i64 0, .int .i64 0, .int .i64 0, .bool false, .bool false, .string ⟨#[]⟩, .string ⟨#[]⟩] 32) rfl (by kernel_rfl) hone ?_; intro w2 hP2 ht2)
    | go_in)
  have q2 : Below w1.heap.size w1 w2 := (bel1 w1 (.cells #[.int .i64 0, .int .i64 0, .int .i64 0, .int .i64 0, .int .i64 0, .int .i64 0, .bool false, .bool false, .string ⟨#[]⟩, .string ⟨#[]⟩] 32)).trans (below_turn ht2 (Nat.le_refl _) (bel1 w1 _).size)
  have hA2 := hA.later q2
  have hG2 := hG.later q2
  have l2 := bt l1 q2
  clear hA hG l1 ht2
  go_wp2_with (first | (refine wpList_load_at rfl 32 _ rfl _ w1.heap.size #[.int .i64 1, .int .i64 2, .int .i64 9, .int .i64 0, .int .i64 0, .int .i64 0, .bool false, .bool false, .string ⟨#[]⟩, .string ⟨#[48, 49, 50, 51, 52, 53, 54, 55, 56, 57]⟩] _ rfl hP2 Try.underlying32 (by kernel_rfl) ?_) | fail)
  refine (pieces_any 1 2 9 0 0 0 false false ⟨#[]⟩ ⟨#[48, 49, 50, 51, 52, 53, 54, 55, 56, 57]⟩ 28 0 (allP p1 8) w2 (by decide) (by decide) p1cut).mono ?_
  rintro e w3 ⟨v, rfl, q3, hown⟩
  have hrw : RW w3 w2.heap.size v ((List.range 2).map (pc p1 8 1)) := by rw [← all_is p1x]; exact hown
  clear hown
  obtain ⟨g, c, cur, rfl, hg, hcur, -⟩ := hrw.real (by decide)
  have hgs : g < w3.heap.size := (Array.getElem?_eq_some_iff.1 hcur).1
  clear hcur
  have hln : ((List.range 2).map (pc p1 8 1)).length = 2 := rfl
  rw [hln] at hrw
  rw [hln]
  have hA3 := hA2.later q3
  have hG3 := hG2.later q3
  have hP3 := hP2.later q3
  have l3 := bt l2 q3
  have hs12 := q2.size
  have hs23 := q3.size
  have hp2 := hP2.1
  have hO := bx_new (R := w3.heap.size) hA3 hG3 (by omega) (by omega) (Nat.le_refl _) (by omega) (mk p1)
  clear hA2 hG2 hP2 l2 q2 q3 hA3 hG3
  have hrg : w3.rangeAt g 10 [.int .i64 (pc p1 8 1 1).f, .int .i64 (pc p1 8 1 1).t, .int .i64 (pc p1 8 1 1).tl, .int .i64 (pc p1 8 1 1).pr, .int .i64 (pc p1 8 1 1).id, .int .i64 (pc p1 8 1 1).fr, .bool (pc p1 8 1 1).mo, .bool (pc p1 8 1 1).dn, .string (pc p1 8 1 1).op, .string (pc p1 8 1 1).da] := fun i u hu => hrw.cells (i := 1) (p := pc p1 8 1 1) rfl i u hu
  have hcon := piece_more p1x (S := []) (k := 1) (x := 0) (by decide) (by decide) (by decide) (by decide) (by decide) List.Pairwise.nil (fun s hs => by cases hs) (by decide) (w := w3) (R := w3.heap.size) (B := w.heap.size + 1) (M := w.heap.size) (ro := 4) (pa := 10) (la := 0) (tu := 0) hO (by decide) (by decide) (by decide) (by decide) 1 (by decide) (by decide)
  go_wp2_with (first | (refine wpList_load_mid rfl 32 _ rfl g 10 (by first | rfl | simp) _ _ hrg Try.underlying32 rfl (by kernel_rfl) ?_) | fail)
  refine hcon.mono ?_
  rintro e w4 ⟨rfl, ⟨T, tu', hTp, hTm, htu, hO4⟩, ht4⟩
  have hT1 : T = [1] := by
    have : T = List.range' 1 (1 + 1 - 1) := all_range T 1 hTp (fun t ht => by have := (hTm t).1 ht; simp at this; omega) (fun x h1 h2 => (hTm x).2 (Or.inl (by omega)))
    exact this
  subst hT1
  have hnF : ∀ k, k < w3.heap.size → k ≠ w.heap.size + 1 → k ≠ w.heap.size → ¬ FB w3.heap.size (w.heap.size + 1) w.heap.size k := fun k h1 h2 h3 e => by unfold FB at e; omega
  have hP4 := hP3.turn ht4 (hnF _ (by omega) (by omega) (by omega))
  have hr4 := hrw.turn ht4 (fun k hk => by simp [Value.ownBlock] at hk; exact hnF _ (by omega) (by omega) (by omega))
  have hb4 : Below w.heap.size w w4 := l3.trans (ht4.below (by omega) (fun k hk e => by unfold FB at e; omega))
  have hs34 := ht4.size
  clear hcon hrg hP3 hrw l3 ht4 hO hTp hTm
  have hone2 : (#[.int .i64 0, .int .i64 0, .int .i64 0, .int .i64 0, .int .i64 0, .int .i64 0, .bool false, .bool false, .string ⟨#[]⟩, .string ⟨#[]⟩] : Array Value).all (·.oneCell') = true := oneZ
  go_upto_region 9 with (first
    | (refine wpList_store_at rfl 32 _ _ rfl _ w4.heap.size #[.int .i64 0, .int .i64 0, .int .i64 0, .int .i64 0, .int .i64 0, .int .i64 0, .bool false, .bool false, .string ⟨#[]⟩, .string ⟨#[]⟩] #[.int .i64 0, .int .i64 0, .int .i64 0, .int .i64 0, .int .i64 0, .int .i64 0, .bool false, .bool false, .string ⟨#[]⟩, .string ⟨#[]⟩] rfl rfl (At.box w4 #[.int .i64 0, .int .i64 0, .int .i64 0, .int .i64 0, .int .i64 0, .int .i64 0, .bool false, .bool false, .string ⟨#[]⟩, .string ⟨#[]⟩] 32) rfl (by kernel_rfl) hone2 ?_; intro w5 hQ5 ht5)
    | go_in)
  have q5 : Below w4.heap.size w4 w5 := (bel1 w4 (.cells #[.int .i64 0, .int .i64 0, .int .i64 0, .int .i64 0, .int .i64 0, .int .i64 0, .bool false, .bool false, .string ⟨#[]⟩, .string ⟨#[]⟩] 32)).trans (below_turn ht5 (Nat.le_refl _) (bel1 w4 _).size)
  have hP5 := hP4.later q5
  have hr5 := hr4.later q5
  have hO5 := hO4.later q5
  have hb5 := bt hb4 q5
  have hs45 := q5.size
  clear hP4 hr4 hO4 hb4 ht5 hQ5 q5
  have hrg : w5.rangeAt g 0 [.int .i64 (pc p1 8 1 0).f, .int .i64 (pc p1 8 1 0).t, .int .i64 (pc p1 8 1 0).tl, .int .i64 (pc p1 8 1 0).pr, .int .i64 (pc p1 8 1 0).id, .int .i64 (pc p1 8 1 0).fr, .bool (pc p1 8 1 0).mo, .bool (pc p1 8 1 0).dn, .string (pc p1 8 1 0).op, .string (pc p1 8 1 0).da] := fun i u hu => by have := hr5.cells (i := 0) (p := pc p1 8 1 0) rfl i u hu; rwa [Nat.zero_mul] at this
  have hcon : Calls Try.prog 13 #[.pointer (some ⟨w.heap.size + 1, 0, none⟩), .agg #[.int .i64 (pc p1 8 1 0).f, .int .i64 (pc p1 8 1 0).t, .int .i64 (pc p1 8 1 0).tl, .int .i64 (pc p1 8 1 0).pr, .int .i64 (pc p1 8 1 0).id, .int .i64 (pc p1 8 1 0).fr, .bool (pc p1 8 1 0).mo, .bool (pc p1 8 1 0).dn, .string (pc p1 8 1 0).op, .string (pc p1 8 1 0).da], .int .i64 2] w5 fun e w' => e = .returned (.tuple #[.agg #[.int .i64 1, .int .i64 2, .int .i64 9, .int .i64 0, .int .i64 0, .int .i64 0, .bool false, .bool false, .string ⟨#[]⟩, .string ⟨#[48, 49, 50, 51, 52, 53, 54, 55, 56, 57]⟩], .bool true, .int .i64 0]) ∧ OneB w' w3.heap.size (w.heap.size + 1) w.heap.size 4 10 2 tu' (mk p1) [] ∧ Turn (FB w3.heap.size (w.heap.size + 1) w.heap.size) w5 w' := piece_last p1x (S := [1]) (k := 0) (by decide) (by decide) (fun x h1 h2 => List.mem_singleton.2 (by omega)) (List.pairwise_singleton _ _) (fun s hs => by simp at hs; omega) (by decide) hO5 2 (by decide) (by decide)
  go_wp2_with (first | (refine wpList_load_mid rfl 32 _ rfl g 0 (by first | rfl | simp) _ _ hrg Try.underlying32 rfl (by kernel_rfl) ?_) | fail)
  refine hcon.mono ?_
  rintro e w6 ⟨rfl, hO6, ht6⟩
  have hP6 := hP5.turn ht6 (hnF _ (by omega) (by omega) (by omega))
  have hb6 : Below w.heap.size w w6 := hb5.trans (ht6.below (by omega) (fun k hk e => by unfold FB at e; omega))
  have hs56 := ht6.size
  clear hcon hrg hP5 hr5 hb5 ht6 hO5
  go_upto_region 10 with (first
    | (refine wpList_store_at rfl 32 _ _ rfl _ w6.heap.size #[.int .i64 0, .int .i64 0, .int .i64 0, .int .i64 0, .int .i64 0, .int .i64 0, .bool false, .bool false, .string ⟨#[]⟩, .string ⟨#[]⟩] #[.int .i64 1, .int .i64 2, .int .i64 9, .int .i64 0, .int .i64 0, .int .i64 0, .bool false, .bool false, .string ⟨#[]⟩, .string ⟨#[48, 49, 50, 51, 52, 53, 54, 55, 56, 57]⟩] rfl rfl (At.box w6 #[.int .i64 0, .int .i64 0, .int .i64 0, .int .i64 0, .int .i64 0, .int .i64 0, .bool false, .bool false, .string ⟨#[]⟩, .string ⟨#[]⟩] 32) rfl (by kernel_rfl) hone ?_; intro w7 hQ7 ht7)
    | go_in)
  have q7 : Below w6.heap.size w6 w7 := (bel1 w6 (.cells #[.int .i64 0, .int .i64 0, .int .i64 0, .int .i64 0, .int .i64 0, .int .i64 0, .bool false, .bool false, .string ⟨#[]⟩, .string ⟨#[]⟩] 32)).trans (below_turn ht7 (Nat.le_refl _) (bel1 w6 _).size)
  have hP7 := hP6.later q7
  have hO7 := hO6.later q7
  have hb7 := bt hb6 q7
  clear hP6 hO6 hb6 ht7 q7
  obtain ⟨⟨a0, a1, a2, a3, a4, a5, a6, a7, a8, a9⟩, -, -⟩ := hQ7.ten
  obtain ⟨⟨b0, b1, b2, b3, b4, b5, b6, b7, b8, b9⟩, -, -⟩ := hP7.ten
  go_wp2_with fail
  refine (one_len hO7).mono ?_
  rintro e w8 ⟨rfl, rfl⟩
  go_wp2
  go_ret
  exact ⟨rfl, hb7⟩
end Go.Proofs.Ytcjhniehbafhpaa
