/- The contracts of package arp's small calls (checked, Check, IsClaim, Ask, Claim, Tell), of the document's, and of the chapter's example: each returns just the values named here; nothing that was there turns. -/
import Derived.Test.YtjldcillackhdaaAchk
namespace Go.Proofs.Ytjldcillackhdaa.Eth.Arp
open Go.RowKit
set_option maxRecDepth 100000

theorem ckd_t {o fm fi tm ti : Int} (h : mayA o fm fi tm ti = true) (w : World) :
    Calls Try.prog 32 #[.agg #[.int .i64 o, .int .i64 fm, .int .i64 fi, .int .i64 tm, .int .i64 ti]] w fun e w' => e = .returned (.tuple #[.agg #[.int .i64 o, .int .i64 fm, .int .i64 fi, .int .i64 tm, .int .i64 ti], .int .i64 0]) ∧ Below w.heap.size w w' := by
  have hA := (At.box w #[.int .i64 o, .int .i64 fm, .int .i64 fi, .int .i64 tm, .int .i64 ti] 31).later (bel1 _ (.cells #[.int .i64 0, .int .i64 0, .int .i64 0, .int .i64 0, .int .i64 0] 31))
  have hl := bt (bel1 w (.cells #[.int .i64 o, .int .i64 fm, .int .i64 fi, .int .i64 tm, .int .i64 ti] 31)) (bel1 _ (.cells #[.int .i64 0, .int .i64 0, .int .i64 0, .int .i64 0, .int .i64 0] 31))
  have hR := At.box2 w (.cells #[.int .i64 o, .int .i64 fm, .int .i64 fi, .int .i64 tm, .int .i64 ti] 31) #[.int .i64 0, .int .i64 0, .int .i64 0, .int .i64 0, .int .i64 0] 31
  go_enter Try.func32, Try.ntmps32
  go_wp2_with fail
  refine (amay_t h _).mono ?_
  rintro e w1 ⟨rfl, hb⟩
  have hl := bt hl hb
  obtain ⟨⟨c0, c1, c2, c3, c4⟩, -, -⟩ := (hA.later hb).five
  obtain ⟨⟨r0, r1, r2, r3, r4⟩, ⟨f0, f1, f2, f3, f4⟩, hlt⟩ := (hR.later hb).five
  clear hA hR hb
  go_wp2
  exact bodyPost_ret (v := .tuple #[.agg #[.int .i64 o, .int .i64 fm, .int .i64 fi, .int .i64 tm, .int .i64 ti], .int .i64 0]) (by simp [results, Try.results32, go_sem, r0, r1, r2, r3, r4]) rfl ⟨rfl, below5 hl (Nat.le_succ _) _ _ _ _ _⟩

theorem ckd_f {o fm fi tm ti : Int} (h : mayA o fm fi tm ti = false) (w : World) :
    Calls Try.prog 32 #[.agg #[.int .i64 o, .int .i64 fm, .int .i64 fi, .int .i64 tm, .int .i64 ti]] w fun e w' => e = .returned (.tuple #[.agg #[.int .i64 0, .int .i64 0, .int .i64 0, .int .i64 0, .int .i64 0], .int .i64 40]) ∧ Below w.heap.size w w' := by
  have hA := (At.box w #[.int .i64 o, .int .i64 fm, .int .i64 fi, .int .i64 tm, .int .i64 ti] 31).later (bel1 _ (.cells #[.int .i64 0, .int .i64 0, .int .i64 0, .int .i64 0, .int .i64 0] 31))
  have hl := bt (bel1 w (.cells #[.int .i64 o, .int .i64 fm, .int .i64 fi, .int .i64 tm, .int .i64 ti] 31)) (bel1 _ (.cells #[.int .i64 0, .int .i64 0, .int .i64 0, .int .i64 0, .int .i64 0] 31))
  have hR := At.box2 w (.cells #[.int .i64 o, .int .i64 fm, .int .i64 fi, .int .i64 tm, .int .i64 ti] 31) #[.int .i64 0, .int .i64 0, .int .i64 0, .int .i64 0, .int .i64 0] 31
  go_enter Try.func32, Try.ntmps32
  go_wp2_with fail
  refine (amay_f h _).mono ?_
  rintro e w1 ⟨rfl, hb⟩
  have hl := bt hl hb
  obtain ⟨⟨c0, c1, c2, c3, c4⟩, -, -⟩ := (hA.later hb).five
  obtain ⟨⟨r0, r1, r2, r3, r4⟩, ⟨f0, f1, f2, f3, f4⟩, hlt⟩ := (hR.later hb).five
  clear hA hR hb
  go_wp2
  exact bodyPost_ret (v := .tuple #[.agg #[.int .i64 0, .int .i64 0, .int .i64 0, .int .i64 0, .int .i64 0], .int .i64 40]) (by simp [results, Try.results32, go_sem, r0, r1, r2, r3, r4]) rfl ⟨rfl, below5 hl (Nat.le_succ _) _ _ _ _ _⟩

end Go.Proofs.Ytjldcillackhdaa.Eth.Arp