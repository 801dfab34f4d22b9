/- The contracts of package arp's Check, IsClaim, Ask, Claim and Tell, of the document's, and of the chapter's example: each returns just the values named here; nothing that was there turns. -/
import Derived.Test.YtjldcillackhdaaAmade
namespace Go.Proofs.Ytjldcillackhdaa.Eth.Arp
open Go.RowKit
set_option maxRecDepth 100000

theorem ach_t {o fm fi tm ti : Int} (h : mayA o fm fi tm ti = true) (w : World) :
    Calls Try.prog 23 #[.agg #[.int .i64 o, .int .i64 fm, .int .i64 fi, .int .i64 tm, .int .i64 ti]] w fun e w' => e = .returned (.int .i64 0) ∧ Below w.heap.size w w' := by
  have hl := bel1 w (.cells #[.int .i64 o, .int .i64 fm, .int .i64 fi, .int .i64 tm, .int .i64 ti] 31)
  go_enter Try.func23, Try.ntmps23
  go_wp2_with fail
  refine (ckd_t h _).mono ?_
  rintro e w1 ⟨rfl, hb⟩
  have hl := bt hl hb
  go_wp2
  go_ret
  exact ⟨rfl, bt hl (bel1 _ _)⟩

theorem ach_f {o fm fi tm ti : Int} (h : mayA o fm fi tm ti = false) (w : World) :
    Calls Try.prog 23 #[.agg #[.int .i64 o, .int .i64 fm, .int .i64 fi, .int .i64 tm, .int .i64 ti]] w fun e w' => e = .returned (.int .i64 40) ∧ Below w.heap.size w w' := by
  have hl := bel1 w (.cells #[.int .i64 o, .int .i64 fm, .int .i64 fi, .int .i64 tm, .int .i64 ti] 31)
  go_enter Try.func23, Try.ntmps23
  go_wp2_with fail
  refine (ckd_f h _).mono ?_
  rintro e w1 ⟨rfl, hb⟩
  have hl := bt hl hb
  go_wp2
  go_ret
  exact ⟨rfl, bt hl (bel1 _ _)⟩

def clB (o fm fi tm ti : Int) : Bool := mayA o fm fi tm ti && (fi == ti)

theorem ask_t {mac ip want : Int} (h : mayA 1 mac ip 0 want = true) (w : World) :
    Calls Try.prog 13 #[.int .i64 mac, .int .i64 ip, .int .i64 want] w fun e w' => e = .returned (.tuple #[.agg #[.int .i64 1, .int .i64 mac, .int .i64 ip, .int .i64 0, .int .i64 want], .int .i64 0]) ∧ Below w.heap.size w w' := by
  have hR := At.box w #[.int .i64 0, .int .i64 0, .int .i64 0, .int .i64 0, .int .i64 0] 31
  have hl := bel1 w (.cells #[.int .i64 0, .int .i64 0, .int .i64 0, .int .i64 0, .int .i64 0] 31)
  go_enter Try.func13, Try.ntmps13
  go_wp2_with fail
  refine (ckd_t h _).mono ?_
  rintro e w1 ⟨rfl, hb⟩
  have hl := bt hl hb
  obtain ⟨⟨r0, r1, r2, r3, r4⟩, ⟨f0, f1, f2, f3, f4⟩, hlt⟩ := (hR.later hb).five
  clear hR hb
  go_wp2
  exact bodyPost_ret (v := .tuple #[.agg #[.int .i64 1, .int .i64 mac, .int .i64 ip, .int .i64 0, .int .i64 want], .int .i64 0]) (by simp [results, Try.results13, go_sem, r0, r1, r2, r3, r4]) rfl ⟨rfl, below5 hl (Nat.le_refl _) _ _ _ _ _⟩

theorem ask_f {mac ip want : Int} (h : mayA 1 mac ip 0 want = false) (w : World) :
    Calls Try.prog 13 #[.int .i64 mac, .int .i64 ip, .int .i64 want] w fun e w' => e = .returned (.tuple #[.agg #[.int .i64 0, .int .i64 0, .int .i64 0, .int .i64 0, .int .i64 0], .int .i64 40]) ∧ Below w.heap.size w w' := by
  have hR := At.box w #[.int .i64 0, .int .i64 0, .int .i64 0, .int .i64 0, .int .i64 0] 31
  have hl := bel1 w (.cells #[.int .i64 0, .int .i64 0, .int .i64 0, .int .i64 0, .int .i64 0] 31)
  go_enter Try.func13, Try.ntmps13
  go_wp2_with fail
  refine (ckd_f h _).mono ?_
  rintro e w1 ⟨rfl, hb⟩
  have hl := bt hl hb
  obtain ⟨⟨r0, r1, r2, r3, r4⟩, ⟨f0, f1, f2, f3, f4⟩, hlt⟩ := (hR.later hb).five
  clear hR hb
  go_wp2
  exact bodyPost_ret (v := .tuple #[.agg #[.int .i64 0, .int .i64 0, .int .i64 0, .int .i64 0, .int .i64 0], .int .i64 40]) (by simp [results, Try.results13, go_sem, r0, r1, r2, r3, r4]) rfl ⟨rfl, below5 hl (Nat.le_refl _) _ _ _ _ _⟩

theorem clm_t {mac ip : Int} (h : mayA 1 mac ip 0 ip = true) (w : World) :
    Calls Try.prog 15 #[.int .i64 mac, .int .i64 ip] w fun e w' => e = .returned (.tuple #[.agg #[.int .i64 1, .int .i64 mac, .int .i64 ip, .int .i64 0, .int .i64 ip], .int .i64 0]) ∧ Below w.heap.size w w' := by
  have hR := At.box w #[.int .i64 0, .int .i64 0, .int .i64 0, .int .i64 0, .int .i64 0] 31
  have hl := bel1 w (.cells #[.int .i64 0, .int .i64 0, .int .i64 0, .int .i64 0, .int .i64 0] 31)
  go_enter Try.func15, Try.ntmps15
  go_wp2_with fail
  refine (ask_t h _).mono ?_
  rintro e w1 ⟨rfl, hb⟩
  have hl := bt hl hb
  obtain ⟨⟨r0, r1, r2, r3, r4⟩, ⟨f0, f1, f2, f3, f4⟩, hlt⟩ := (hR.later hb).five
  clear hR hb
  go_wp2
  exact bodyPost_ret (v := .tuple #[.agg #[.int .i64 1, .int .i64 mac, .int .i64 ip, .int .i64 0, .int .i64 ip], .int .i64 0]) (by simp [results, Try.results15, go_sem, r0, r1, r2, r3, r4]) rfl ⟨rfl, below5 hl (Nat.le_refl _) _ _ _ _ _⟩

theorem clm_f {mac ip : Int} (h : mayA 1 mac ip 0 ip = false) (w : World) :
    Calls Try.prog 15 #[.int .i64 mac, .int .i64 ip] w fun e w' => e = .returned (.tuple #[.agg #[.int .i64 0, .int .i64 0, .int .i64 0, .int .i64 0, .int .i64 0], .int .i64 40]) ∧ Below w.heap.size w w' := by
  have hR := At.box w #[.int .i64 0, .int .i64 0, .int .i64 0, .int .i64 0, .int .i64 0] 31
  have hl := bel1 w (.cells #[.int .i64 0, .int .i64 0, .int .i64 0, .int .i64 0, .int .i64 0] 31)
  go_enter Try.func15, Try.ntmps15
  go_wp2_with fail
  refine (ask_f h _).mono ?_
  rintro e w1 ⟨rfl, hb⟩
  have hl := bt hl hb
  obtain ⟨⟨r0, r1, r2, r3, r4⟩, ⟨f0, f1, f2, f3, f4⟩, hlt⟩ := (hR.later hb).five
  clear hR hb
  go_wp2
  exact bodyPost_ret (v := .tuple #[.agg #[.int .i64 0, .int .i64 0, .int .i64 0, .int .i64 0, .int .i64 0], .int .i64 40]) (by simp [results, Try.results15, go_sem, r0, r1, r2, r3, r4]) rfl ⟨rfl, below5 hl (Nat.le_refl _) _ _ _ _ _⟩

theorem tell_f1 {o fm fi tm ti mac : Int} (h : mayA o fm fi tm ti = false) (w : World) :
    Calls Try.prog 18 #[.agg #[.int .i64 o, .int .i64 fm, .int .i64 fi, .int .i64 tm, .int .i64 ti], .int .i64 mac] w fun e w' => e = .returned (.tuple #[.agg #[.int .i64 0, .int .i64 0, .int .i64 0, .int .i64 0, .int .i64 0], .int .i64 40]) ∧ Below w.heap.size w w' := by
  have hA := (At.box w #[.int .i64 o, .int .i64 fm, .int .i64 fi, .int .i64 tm, .int .i64 ti] 31).later (bel1 _ (.cells #[.int .i64 0, .int .i64 0, .int .i64 0, .int .i64 0, .int .i64 0] 31))
  have hl := bt (bel1 w (.cells #[.int .i64 o, .int .i64 fm, .int .i64 fi, .int .i64 tm, .int .i64 ti] 31)) (bel1 _ (.cells #[.int .i64 0, .int .i64 0, .int .i64 0, .int .i64 0, .int .i64 0] 31))
  have hR := At.box2 w (.cells #[.int .i64 o, .int .i64 fm, .int .i64 fi, .int .i64 tm, .int .i64 ti] 31) #[.int .i64 0, .int .i64 0, .int .i64 0, .int .i64 0, .int .i64 0] 31
  go_enter Try.func18, Try.ntmps18
  go_wp2_with fail
  refine (amay_f h _).mono ?_
  rintro e w1 ⟨rfl, hb⟩
  have hl := bt hl hb
  have hA := hA.later hb
  have hR := hR.later hb
  clear hb
  obtain ⟨⟨c0, c1, c2, c3, c4⟩, -, -⟩ := hA.five
  obtain ⟨⟨r0, r1, r2, r3, r4⟩, ⟨f0, f1, f2, f3, f4⟩, hlt⟩ := hR.five
  clear hR hA
  go_wp2
  exact bodyPost_ret (v := .tuple #[.agg #[.int .i64 0, .int .i64 0, .int .i64 0, .int .i64 0, .int .i64 0], .int .i64 40]) (by simp [results, Try.results18, go_sem, r0, r1, r2, r3, r4]) rfl ⟨rfl, below5 hl (Nat.le_succ _) _ _ _ _ _⟩

theorem tell_f2 {o fm fi tm ti mac : Int} (h : mayA o fm fi tm ti = true) (q : (o != 1) = true) (w : World) :
    Calls Try.prog 18 #[.agg #[.int .i64 o, .int .i64 fm, .int .i64 fi, .int .i64 tm, .int .i64 ti], .int .i64 mac] w fun e w' => e = .returned (.tuple #[.agg #[.int .i64 0, .int .i64 0, .int .i64 0, .int .i64 0, .int .i64 0], .int .i64 40]) ∧ Below w.heap.size w w' := by
  have hA := (At.box w #[.int .i64 o, .int .i64 fm, .int .i64 fi, .int .i64 tm, .int .i64 ti] 31).later (bel1 _ (.cells #[.int .i64 0, .int .i64 0, .int .i64 0, .int .i64 0, .int .i64 0] 31))
  have hl := bt (bel1 w (.cells #[.int .i64 o, .int .i64 fm, .int .i64 fi, .int .i64 tm, .int .i64 ti] 31)) (bel1 _ (.cells #[.int .i64 0, .int .i64 0, .int .i64 0, .int .i64 0, .int .i64 0] 31))
  have hR := At.box2 w (.cells #[.int .i64 o, .int .i64 fm, .int .i64 fi, .int .i64 tm, .int .i64 ti] 31) #[.int .i64 0, .int .i64 0, .int .i64 0, .int .i64 0, .int .i64 0] 31
  go_enter Try.func18, Try.ntmps18
  go_wp2_with fail
  refine (amay_t h _).mono ?_
  rintro e w1 ⟨rfl, hb⟩
  have hl := bt hl hb
  have hA := hA.later hb
  have hR := hR.later hb
  clear hb
  obtain ⟨⟨c0, c1, c2, c3, c4⟩, -, -⟩ := hA.five
  obtain ⟨⟨r0, r1, r2, r3, r4⟩, ⟨f0, f1, f2, f3, f4⟩, hlt⟩ := hR.five
  clear hR hA
  go_wp2
  exact bodyPost_ret (v := .tuple #[.agg #[.int .i64 0, .int .i64 0, .int .i64 0, .int .i64 0, .int .i64 0], .int .i64 40]) (by simp [results, Try.results18, go_sem, r0, r1, r2, r3, r4]) rfl ⟨rfl, below5 hl (Nat.le_succ _) _ _ _ _ _⟩

theorem tell_f3 {o fm fi tm ti mac : Int} (h : mayA o fm fi tm ti = true) (q : (o != 1) = false) (g : mayA 2 mac ti fm fi = false) (w : World) :
    Calls Try.prog 18 #[.agg #[.int .i64 o, .int .i64 fm, .int .i64 fi, .int .i64 tm, .int .i64 ti], .int .i64 mac] w fun e w' => e = .returned (.tuple #[.agg #[.int .i64 0, .int .i64 0, .int .i64 0, .int .i64 0, .int .i64 0], .int .i64 40]) ∧ Below w.heap.size w w' := by
  have hA := (At.box w #[.int .i64 o, .int .i64 fm, .int .i64 fi, .int .i64 tm, .int .i64 ti] 31).later (bel1 _ (.cells #[.int .i64 0, .int .i64 0, .int .i64 0, .int .i64 0, .int .i64 0] 31))
  have hl := bt (bel1 w (.cells #[.int .i64 o, .int .i64 fm, .int .i64 fi, .int .i64 tm, .int .i64 ti] 31)) (bel1 _ (.cells #[.int .i64 0, .int .i64 0, .int .i64 0, .int .i64 0, .int .i64 0] 31))
  have hR := At.box2 w (.cells #[.int .i64 o, .int .i64 fm, .int .i64 fi, .int .i64 tm, .int .i64 ti] 31) #[.int .i64 0, .int .i64 0, .int .i64 0, .int .i64 0, .int .i64 0] 31
  go_enter Try.func18, Try.ntmps18
  go_wp2_with fail
  refine (amay_t h _).mono ?_
  rintro e w1 ⟨rfl, hb⟩
  have hl := bt hl hb
  have hA := hA.later hb
  have hR := hR.later hb
  clear hb
  obtain ⟨⟨c0, c1, c2, c3, c4⟩, -, -⟩ := hA.five
  go_wp2_with fail
  refine (ckd_f g _).mono ?_
  rintro e w2 ⟨rfl, hb⟩
  have hl := bt hl hb
  have hR := hR.later hb
  clear c0 c1 c2 c3 c4 hb
  obtain ⟨⟨r0, r1, r2, r3, r4⟩, ⟨f0, f1, f2, f3, f4⟩, hlt⟩ := hR.five
  clear hR hA
  go_wp2
  exact bodyPost_ret (v := .tuple #[.agg #[.int .i64 0, .int .i64 0, .int .i64 0, .int .i64 0, .int .i64 0], .int .i64 40]) (by simp [results, Try.results18, go_sem, r0, r1, r2, r3, r4]) rfl ⟨rfl, below5 hl (Nat.le_succ _) _ _ _ _ _⟩

theorem tell_t {o fm fi tm ti mac : Int} (h : mayA o fm fi tm ti = true) (q : (o != 1) = false) (g : mayA 2 mac ti fm fi = true) (w : World) :
    Calls Try.prog 18 #[.agg #[.int .i64 o, .int .i64 fm, .int .i64 fi, .int .i64 tm, .int .i64 ti], .int .i64 mac] w fun e w' => e = .returned (.tuple #[.agg #[.int .i64 2, .int .i64 mac, .int .i64 ti, .int .i64 fm, .int .i64 fi], .int .i64 0]) ∧ Below w.heap.size w w' := by
  have hA := (At.box w #[.int .i64 o, .int .i64 fm, .int .i64 fi, .int .i64 tm, .int .i64 ti] 31).later (bel1 _ (.cells #[.int .i64 0, .int .i64 0, .int .i64 0, .int .i64 0, .int .i64 0] 31))
  have hl := bt (bel1 w (.cells #[.int .i64 o, .int .i64 fm, .int .i64 fi, .int .i64 tm, .int .i64 ti] 31)) (bel1 _ (.cells #[.int .i64 0, .int .i64 0, .int .i64 0, .int .i64 0, .int .i64 0] 31))
  have hR := At.box2 w (.cells #[.int .i64 o, .int .i64 fm, .int .i64 fi, .int .i64 tm, .int .i64 ti] 31) #[.int .i64 0, .int .i64 0, .int .i64 0, .int .i64 0, .int .i64 0] 31
  go_enter Try.func18, Try.ntmps18
  go_wp2_with fail
  refine (amay_t h _).mono ?_
  rintro e w1 ⟨rfl, hb⟩
  have hl := bt hl hb
  have hA := hA.later hb
  have hR := hR.later hb
  clear hb
  obtain ⟨⟨c0, c1, c2, c3, c4⟩, -, -⟩ := hA.five
  go_wp2_with fail
  refine (ckd_t g _).mono ?_
  rintro e w2 ⟨rfl, hb⟩
  have hl := bt hl hb
  have hR := hR.later hb
  clear c0 c1 c2 c3 c4 hb
  obtain ⟨⟨r0, r1, r2, r3, r4⟩, ⟨f0, f1, f2, f3, f4⟩, hlt⟩ := hR.five
  clear hR hA
  go_wp2
  exact bodyPost_ret (v := .tuple #[.agg #[.int .i64 2, .int .i64 mac, .int .i64 ti, .int .i64 fm, .int .i64 fi], .int .i64 0]) (by simp [results, Try.results18, go_sem, r0, r1, r2, r3, r4]) rfl ⟨rfl, below5 hl (Nat.le_succ _) _ _ _ _ _⟩

def tellB (o fm fi tm ti mac : Int) : Bool := mayA o fm fi tm ti && (o == 1) && mayA 2 mac ti fm fi
theorem tell_ways (o fm fi tm ti mac : Int) : (tellB o fm fi tm ti mac = false ∧ mayA o fm fi tm ti = false) ∨ (tellB o fm fi tm ti mac = false ∧ mayA o fm fi tm ti = true ∧ (o != 1) = true) ∨ (tellB o fm fi tm ti mac = false ∧ mayA o fm fi tm ti = true ∧ (o != 1) = false ∧ mayA 2 mac ti fm fi = false) ∨
    (tellB o fm fi tm ti mac = true ∧ mayA o fm fi tm ti = true ∧ (o != 1) = false ∧ mayA 2 mac ti fm fi = true) := by
  unfold tellB
  cases mayA o fm fi tm ti <;> cases mayA 2 mac ti fm fi <;> by_cases h : o = 1 <;> simp [h]

theorem tell_f {o fm fi tm ti mac : Int} (h : tellB o fm fi tm ti mac = false) (w : World) :
    Calls Try.prog 18 #[.agg #[.int .i64 o, .int .i64 fm, .int .i64 fi, .int .i64 tm, .int .i64 ti], .int .i64 mac] w fun e w' => e = .returned (.tuple #[.agg #[.int .i64 0, .int .i64 0, .int .i64 0, .int .i64 0, .int .i64 0], .int .i64 40]) ∧ Below w.heap.size w w' := by
  rcases tell_ways o fm fi tm ti mac with ⟨-, a⟩ | ⟨-, a, b⟩ | ⟨-, a, b, c⟩ | ⟨q, -⟩
  · exact tell_f1 a w
  · exact tell_f2 a b w
  · exact tell_f3 a b c w
  · rw [h] at q; cases q
theorem tell_y {o fm fi tm ti mac : Int} (h : tellB o fm fi tm ti mac = true) (w : World) :
    Calls Try.prog 18 #[.agg #[.int .i64 o, .int .i64 fm, .int .i64 fi, .int .i64 tm, .int .i64 ti], .int .i64 mac] w fun e w' => e = .returned (.tuple #[.agg #[.int .i64 2, .int .i64 mac, .int .i64 ti, .int .i64 fm, .int .i64 fi], .int .i64 0]) ∧ Below w.heap.size w w' := by
  rcases tell_ways o fm fi tm ti mac with ⟨q, -⟩ | ⟨q, -⟩ | ⟨q, -⟩ | ⟨-, a, b, c⟩
  · rw [h] at q; cases q
  · rw [h] at q; cases q
  · rw [h] at q; cases q
  · exact tell_t a b c w

end Go.Proofs.Ytjldcillackhdaa.Eth.Arp