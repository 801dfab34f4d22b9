/- The contracts of About of package icmp, and of the document's: each returns just the values named here; nothing that was there turns. -/
import Derived.Test.YtbbeepkcejiafaaIcm
import Derived.Test.YtbbeepkcejiafaaEnb
import Derived.Test.YtbbeepkcejiafaaRby
namespace Go.Proofs.Ytbbeepkcejiafaa
open Go.RowKit

def kindB (k c : Int) : Bool := decide ((k = 3 ∨ k = 11) ∧ 0 ≤ c ∧ c ≤ 15)
def aboN (op da : ByteArray) : Nat := 20 + op.size + min da.size 8
theorem kind_ways (k c : Int) : (kindB k c = false ∧ (k != 3) = true ∧ (k != 11) = true) ∨ (((k != 3) = false ∨ (k != 3) = true ∧ (k != 11) = false) ∧ ((kindB k c = false ∧ fitB c 15 = false) ∨ (kindB k c = true ∧ fitB c 15 = true))) := by
  unfold kindB
  have hc : ((k = 3 ∨ k = 11) → ((decide ((k = 3 ∨ k = 11) ∧ 0 ≤ c ∧ c ≤ 15) = false ∧ fitB c 15 = false) ∨ (decide ((k = 3 ∨ k = 11) ∧ 0 ≤ c ∧ c ≤ 15) = true ∧ fitB c 15 = true))) := by
    intro h
    by_cases g : 0 ≤ c ∧ c ≤ 15
    · exact .inr ⟨decide_eq_true ⟨h, g⟩, fitB_t g⟩
    · exact .inl ⟨decide_eq_false (fun e => g e.2), fitB_f g⟩
  by_cases h1 : k = 3
  · exact .inr ⟨.inl (by simp [h1]), hc (.inl h1)⟩
  · by_cases h2 : k = 11
    · exact .inr ⟨.inr ⟨by simpa using h1, by simp [h2]⟩, hc (.inr h2)⟩
    · exact .inl ⟨decide_eq_false (by omega), by simpa using h1, by simpa using h2⟩

set_option maxHeartbeats 1000000 in
theorem abo_r {k c : Int} (f t tl pr id fr : Int) (mo dn : Bool) (op da : ByteArray) (h : kindB k c = false) (w : World) :
    Calls Try.prog 18 #[.int .i64 k, .int .i64 c, .agg #[.int .i64 f, .int .i64 t, .int .i64 tl, .int .i64 pr, .int .i64 id, .int .i64 fr, .bool mo, .bool dn, .string op, .string da]] w fun e w' => e = .returned (.tuple #[.agg #[.int .i64 0, .int .i64 0, .int .i64 0, .int .i64 0, .string ⟨#[]⟩], .int .i64 1]) ∧ Below w.heap.size w w' := by
  have hl := bt (bel1 w (.cells #[.int .i64 f, .int .i64 t, .int .i64 tl, .int .i64 pr, .int .i64 id, .int .i64 fr, .bool mo, .bool dn, .string op, .string da] 35)) (bel1 _ (.cells #[.int .i64 0, .int .i64 0, .int .i64 0, .int .i64 0, .string ⟨#[]⟩] 23))
  rcases kind_ways k c with ⟨-, h1, h2⟩ | ⟨h1 | ⟨h1, h2⟩, ⟨-, h3⟩ | ⟨q, -⟩⟩
  case inr.inl.inr => rw [h] at q; cases q
  case inr.inr.inr => rw [h] at q; cases q
  all_goals
    clear h
    go_enter Try.func18, Try.ntmps18
    go_wp2_with (first | (go_at_call 32; refine (ifits_f (by assumption) _).mono ?_; rintro e w1 ⟨rfl, rfl⟩))
    exact bodyPost_ret (v := .tuple #[.agg #[.int .i64 0, .int .i64 0, .int .i64 0, .int .i64 0, .string ⟨#[]⟩], .int .i64 1]) (by simp [results, Try.results18, go_sem]) rfl ⟨rfl, hl⟩
set_option maxHeartbeats 1000000 in
theorem rabo_r {k c : Int} (f t tl pr id fr : Int) (mo dn : Bool) (op da : ByteArray) (h : kindB k c = false) (w : World) :
    Calls Try.prog 19 #[.int .i64 k, .int .i64 c, .agg #[.int .i64 f, .int .i64 t, .int .i64 tl, .int .i64 pr, .int .i64 id, .int .i64 fr, .bool mo, .bool dn, .string op, .string da]] w fun e w' => e = .returned (.tuple #[.agg #[.int .i64 0, .int .i64 0, .int .i64 0, .int .i64 0, .string ⟨#[]⟩], .int .i64 1]) ∧ Below w.heap.size w w' := by
  have hl := bt (bel1 w (.cells #[.int .i64 f, .int .i64 t, .int .i64 tl, .int .i64 pr, .int .i64 id, .int .i64 fr, .bool mo, .bool dn, .string op, .string da] 35)) (bel1 _ (.cells #[.int .i64 0, .int .i64 0, .int .i64 0, .int .i64 0, .string ⟨#[]⟩] 23))
  have hc : fitB c 15 = false → c < 0 ∨ 0 ≤ c ∧ 15 < c := ifit_no
  rcases kind_ways k c with ⟨-, h1, h2⟩ | ⟨h1 | ⟨h1, h2⟩, ⟨-, h3⟩ | ⟨q, -⟩⟩
  case inr.inl.inr => rw [h] at q; cases q
  case inr.inr.inr => rw [h] at q; cases q
  · clear h hc
    go_enter Try.func19, Try.ntmps19
    go_wp2
    exact bodyPost_ret (v := .tuple #[.agg #[.int .i64 0, .int .i64 0, .int .i64 0, .int .i64 0, .string ⟨#[]⟩], .int .i64 1]) (by simp [results, Try.results19, go_sem]) rfl ⟨rfl, hl⟩
  all_goals
    replace hc := hc h3
    clear h h3
    rcases hc with c1 | ⟨c1, c2⟩
    all_goals
      go_enter Try.func19, Try.ntmps19
      go_wp2
      exact bodyPost_ret (v := .tuple #[.agg #[.int .i64 0, .int .i64 0, .int .i64 0, .int .i64 0, .string ⟨#[]⟩], .int .i64 1]) (by simp [results, Try.results19, go_sem]) rfl ⟨rfl, hl⟩

set_option maxRecDepth 100000 in
set_option maxHeartbeats 2000000 in
theorem abo_n {k c : Int} {f t tl pr id fr : Int} {mo dn : Bool} {op da : ByteArray} (h : kindB k c = true) (hp : mayP f t tl pr id fr mo op.size da.size = false) (ho : op.size ≤ 1125899906842624) (hd : da.size ≤ 1125899906842624) (w : World) :
    Calls Try.prog 18 #[.int .i64 k, .int .i64 c, .agg #[.int .i64 f, .int .i64 t, .int .i64 tl, .int .i64 pr, .int .i64 id, .int .i64 fr, .bool mo, .bool dn, .string op, .string da]] w fun e w' => e = .returned (.tuple #[.agg #[.int .i64 0, .int .i64 0, .int .i64 0, .int .i64 0, .string ⟨#[]⟩], .int .i64 50]) ∧ Below w.heap.size w w' := by
  have hA := (At.box w #[.int .i64 f, .int .i64 t, .int .i64 tl, .int .i64 pr, .int .i64 id, .int .i64 fr, .bool mo, .bool dn, .string op, .string da] 35).later (bel1 _ (.cells #[.int .i64 0, .int .i64 0, .int .i64 0, .int .i64 0, .string ⟨#[]⟩] 23))
  have hl := bt (bel1 w (.cells #[.int .i64 f, .int .i64 t, .int .i64 tl, .int .i64 pr, .int .i64 id, .int .i64 fr, .bool mo, .bool dn, .string op, .string da] 35)) (bel1 _ (.cells #[.int .i64 0, .int .i64 0, .int .i64 0, .int .i64 0, .string ⟨#[]⟩] 23))
  have hR := At.box2 w (.cells #[.int .i64 f, .int .i64 t, .int .i64 tl, .int .i64 pr, .int .i64 id, .int .i64 fr, .bool mo, .bool dn, .string op, .string da] 35) #[.int .i64 0, .int .i64 0, .int .i64 0, .int .i64 0, .string ⟨#[]⟩] 23
  have hw : ((k != 3) = false ∨ (k != 3) = true ∧ (k != 11) = false) ∧ fitB c 15 = true := by
    rcases kind_ways k c with ⟨q, -, -⟩ | ⟨q1, ⟨q, -⟩ | ⟨-, q⟩⟩
    · rw [h] at q; cases q
    · rw [h] at q; cases q
    · exact ⟨q1, q⟩
  obtain ⟨hk, hc⟩ := hw
  have hcc := ifit_yes hc
  obtain ⟨hc0, hc1⟩ := hcc
  clear h
  rcases hk with h1 | ⟨h1, h2⟩
  all_goals
    go_enter Try.func18, Try.ntmps18
    go_wp2_with (first | (go_at_call 32; refine (ifits_t (by assumption) _).mono ?_; rintro e w1 ⟨rfl, rfl⟩))
    refine (enc_n hp _ ho hd).mono ?_
    rintro e w1 ⟨rfl, hb⟩
    have hl := bt hl hb
    obtain ⟨⟨r0, r1, r2, r3, r4⟩, ⟨f0, f1, f2, f3, f4⟩, hlt⟩ := (hR.later hb).five
    clear hR hb hA
    go_wp2
    exact bodyPost_ret (v := .tuple #[.agg #[.int .i64 0, .int .i64 0, .int .i64 0, .int .i64 0, .string ⟨#[]⟩], .int .i64 50]) (by simp [results, Try.results18, go_sem, r0, r1, r2, r3, r4]) rfl ⟨rfl, below5 hl (Nat.le_succ _) _ _ _ _ _⟩

set_option maxRecDepth 100000 in
set_option maxHeartbeats 2000000 in
theorem rabo_n {k c : Int} {f t tl pr id fr : Int} {mo dn : Bool} {op da : ByteArray} (h : kindB k c = true) (hp : mayP f t tl pr id fr mo op.size da.size = false) (ho : op.size ≤ 1125899906842624) (hd : da.size ≤ 1125899906842624) (w : World) :
    Calls Try.prog 19 #[.int .i64 k, .int .i64 c, .agg #[.int .i64 f, .int .i64 t, .int .i64 tl, .int .i64 pr, .int .i64 id, .int .i64 fr, .bool mo, .bool dn, .string op, .string da]] w fun e w' => e = .returned (.tuple #[.agg #[.int .i64 0, .int .i64 0, .int .i64 0, .int .i64 0, .string ⟨#[]⟩], .int .i64 50]) ∧ Below w.heap.size w w' := by
  have hA := (At.box w #[.int .i64 f, .int .i64 t, .int .i64 tl, .int .i64 pr, .int .i64 id, .int .i64 fr, .bool mo, .bool dn, .string op, .string da] 35).later (bel1 _ (.cells #[.int .i64 0, .int .i64 0, .int .i64 0, .int .i64 0, .string ⟨#[]⟩] 23))
  have hl := bt (bel1 w (.cells #[.int .i64 f, .int .i64 t, .int .i64 tl, .int .i64 pr, .int .i64 id, .int .i64 fr, .bool mo, .bool dn, .string op, .string da] 35)) (bel1 _ (.cells #[.int .i64 0, .int .i64 0, .int .i64 0, .int .i64 0, .string ⟨#[]⟩] 23))
  have hR := At.box2 w (.cells #[.int .i64 f, .int .i64 t, .int .i64 tl, .int .i64 pr, .int .i64 id, .int .i64 fr, .bool mo, .bool dn, .string op, .string da] 35) #[.int .i64 0, .int .i64 0, .int .i64 0, .int .i64 0, .string ⟨#[]⟩] 23
  have hw : ((k != 3) = false ∨ (k != 3) = true ∧ (k != 11) = false) ∧ fitB c 15 = true := by
    rcases kind_ways k c with ⟨q, -, -⟩ | ⟨q1, ⟨q, -⟩ | ⟨-, q⟩⟩
    · rw [h] at q; cases q
    · rw [h] at q; cases q
    · exact ⟨q1, q⟩
  obtain ⟨hk, hc⟩ := hw
  have hcc := ifit_yes hc
  obtain ⟨hc0, hc1⟩ := hcc
  clear h
  rcases hk with h1 | ⟨h1, h2⟩
  all_goals
    go_enter Try.func19, Try.ntmps19
    go_wp2_with (first | (go_at_call 32; refine (ifits_t (by assumption) _).mono ?_; rintro e w1 ⟨rfl, rfl⟩))
    refine (rchk_f hp _ ho hd).mono ?_
    rintro e w1 ⟨rfl, hb⟩
    have hl := bt hl hb
    obtain ⟨⟨r0, r1, r2, r3, r4⟩, ⟨f0, f1, f2, f3, f4⟩, hlt⟩ := (hR.later hb).five
    clear hR hb hA
    go_wp2
    exact bodyPost_ret (v := .tuple #[.agg #[.int .i64 0, .int .i64 0, .int .i64 0, .int .i64 0, .string ⟨#[]⟩], .int .i64 50]) (by simp [results, Try.results19, go_sem, r0, r1, r2, r3, r4]) rfl ⟨rfl, below5 hl (Nat.le_succ _) _ _ _ _ _⟩

set_option maxRecDepth 100000 in
set_option maxHeartbeats 2000000 in
theorem abo_y {k c : Int} {f t tl pr id fr : Int} {mo dn : Bool} {op da : ByteArray} (h : kindB k c = true) (hp : mayP f t tl pr id fr mo op.size da.size = true) (w : World) :
    Calls Try.prog 18 #[.int .i64 k, .int .i64 c, .agg #[.int .i64 f, .int .i64 t, .int .i64 tl, .int .i64 pr, .int .i64 id, .int .i64 fr, .bool mo, .bool dn, .string op, .string da]] w fun e w' => e = .returned (.tuple #[.agg #[.int .i64 k, .int .i64 c, .int .i64 0, .int .i64 0, .string ((encP f t tl pr id fr mo dn op da).extract 0 (aboN op da))], .int .i64 0]) ∧ Below w.heap.size w w' := by
  have hA := (At.box w #[.int .i64 f, .int .i64 t, .int .i64 tl, .int .i64 pr, .int .i64 id, .int .i64 fr, .bool mo, .bool dn, .string op, .string da] 35).later (bel1 _ (.cells #[.int .i64 0, .int .i64 0, .int .i64 0, .int .i64 0, .string ⟨#[]⟩] 23))
  have hl := bt (bel1 w (.cells #[.int .i64 f, .int .i64 t, .int .i64 tl, .int .i64 pr, .int .i64 id, .int .i64 fr, .bool mo, .bool dn, .string op, .string da] 35)) (bel1 _ (.cells #[.int .i64 0, .int .i64 0, .int .i64 0, .int .i64 0, .string ⟨#[]⟩] 23))
  have hR := At.box2 w (.cells #[.int .i64 f, .int .i64 t, .int .i64 tl, .int .i64 pr, .int .i64 id, .int .i64 fr, .bool mo, .bool dn, .string op, .string da] 35) #[.int .i64 0, .int .i64 0, .int .i64 0, .int .i64 0, .string ⟨#[]⟩] 23
  have hw : ((k != 3) = false ∨ (k != 3) = true ∧ (k != 11) = false) ∧ fitB c 15 = true := by
    rcases kind_ways k c with ⟨q, -, -⟩ | ⟨q1, ⟨q, -⟩ | ⟨-, q⟩⟩
    · rw [h] at q; cases q
    · rw [h] at q; cases q
    · exact ⟨q1, q⟩
  obtain ⟨hk, hc⟩ := hw
  have hcc := ifit_yes hc
  obtain ⟨hc0, hc1⟩ := hcc
  clear h
  obtain ⟨-, -, -, -, -, -, -, o40, -, hz, -⟩ := mayP_q hp
  have zB := encP_size f t tl pr id fr mo dn op da
  have he := fun W => enc_y (dn := dn) hp W
  generalize encP f t tl pr id fr mo dn op da = B at *
  have hN : ∃ N : Nat, N = aboN op da ∧ N ≤ B.size := ⟨_, rfl, by unfold aboN; omega⟩
  obtain ⟨N, hN, hNB⟩ := hN
  have m1 : 8 < (da.size : Int) ∧ (B.size : Int) - ((da.size : Int) - 8) = (N : Int) ∨ (da.size : Int) ≤ 8 ∧ N = B.size := by rw [hN]; unfold aboN; omega
  have hd : (da.size : Int) ≤ 65535 := by omega
  have hB : (B.size : Int) ≤ 65535 := by omega
  rw [← hN]
  clear hz zB hp hN
  rcases hk with h1 | ⟨h1, h2⟩
  all_goals
    go_enter Try.func18, Try.ntmps18
    go_wp2_with (first | (go_at_call 32; refine (ifits_t (by assumption) _).mono ?_; rintro e w1 ⟨rfl, rfl⟩))
    refine (he _).mono ?_
    rintro e w1 ⟨rfl, hb⟩
    have hl := bt hl hb
    obtain ⟨⟨c0, c1, c2, c3, c4, c5, c6, c7, c8, c9⟩, -, -⟩ := (hA.later hb).ten
    obtain ⟨⟨r0, r1, r2, r3, r4⟩, ⟨f0, f1, f2, f3, f4⟩, hlt⟩ := (hR.later hb).five
    clear hR hb hA he
    rcases m1 with ⟨g, m⟩ | ⟨g, rfl⟩
    · go_wp2
      exact bodyPost_ret (v := .tuple #[.agg #[.int .i64 k, .int .i64 c, .int .i64 0, .int .i64 0, .string (B.extract 0 N)], .int .i64 0]) (by simp [results, Try.results18, go_sem, r0, r1, r2, r3, r4]) rfl ⟨rfl, below5 hl (Nat.le_succ _) _ _ _ _ _⟩
    · go_wp2
      exact bodyPost_ret (v := .tuple #[.agg #[.int .i64 k, .int .i64 c, .int .i64 0, .int .i64 0, .string (B.extract 0 B.size)], .int .i64 0]) (by simp [results, Try.results18, go_sem, r0, r1, r2, r3, r4]) rfl ⟨rfl, below5 hl (Nat.le_succ _) _ _ _ _ _⟩

set_option maxRecDepth 100000 in
set_option maxHeartbeats 2000000 in
theorem rabo_y {k c : Int} {f t tl pr id fr : Int} {mo dn : Bool} {op da : ByteArray} (h : kindB k c = true) (hp : mayP f t tl pr id fr mo op.size da.size = true) (w : World) :
    Calls Try.prog 19 #[.int .i64 k, .int .i64 c, .agg #[.int .i64 f, .int .i64 t, .int .i64 tl, .int .i64 pr, .int .i64 id, .int .i64 fr, .bool mo, .bool dn, .string op, .string da]] w fun e w' => e = .returned (.tuple #[.agg #[.int .i64 k, .int .i64 c, .int .i64 0, .int .i64 0, .string ((encP f t tl pr id fr mo dn op da).extract 0 (aboN op da))], .int .i64 0]) ∧ Below w.heap.size w w' := by
  have hA := (At.box w #[.int .i64 f, .int .i64 t, .int .i64 tl, .int .i64 pr, .int .i64 id, .int .i64 fr, .bool mo, .bool dn, .string op, .string da] 35).later (bel1 _ (.cells #[.int .i64 0, .int .i64 0, .int .i64 0, .int .i64 0, .string ⟨#[]⟩] 23))
  have hl := bt (bel1 w (.cells #[.int .i64 f, .int .i64 t, .int .i64 tl, .int .i64 pr, .int .i64 id, .int .i64 fr, .bool mo, .bool dn, .string op, .string da] 35)) (bel1 _ (.cells #[.int .i64 0, .int .i64 0, .int .i64 0, .int .i64 0, .string ⟨#[]⟩] 23))
  have hR := At.box2 w (.cells #[.int .i64 f, .int .i64 t, .int .i64 tl, .int .i64 pr, .int .i64 id, .int .i64 fr, .bool mo, .bool dn, .string op, .string da] 35) #[.int .i64 0, .int .i64 0, .int .i64 0, .int .i64 0, .string ⟨#[]⟩] 23
  have hw : ((k != 3) = false ∨ (k != 3) = true ∧ (k != 11) = false) ∧ fitB c 15 = true := by
    rcases kind_ways k c with ⟨q, -, -⟩ | ⟨q1, ⟨q, -⟩ | ⟨-, q⟩⟩
    · rw [h] at q; cases q
    · rw [h] at q; cases q
    · exact ⟨q1, q⟩
  obtain ⟨hk, hc⟩ := hw
  have hcc := ifit_yes hc
  obtain ⟨hc0, hc1⟩ := hcc
  clear h
  obtain ⟨-, -, -, -, -, -, -, o40, -, hz, -⟩ := mayP_q hp
  have zB := encP_size f t tl pr id fr mo dn op da
  have hck := fun W => rchk_t (dn := dn) hp W (by omega) (by omega)
  have he := fun W => rbytes_y (dn := dn) hp W
  generalize encP f t tl pr id fr mo dn op da = B at *
  have hN : ∃ N : Nat, N = aboN op da ∧ N ≤ B.size := ⟨_, rfl, by unfold aboN; omega⟩
  obtain ⟨N, hN, hNB⟩ := hN
  have m1 : 20 + (op.size : Int) + 8 < (B.size : Int) ∧ 20 + (op.size : Int) + 8 = (N : Int) ∨ (B.size : Int) ≤ 20 + (op.size : Int) + 8 ∧ N = B.size := by rw [hN]; unfold aboN; omega
  have ho : (op.size : Int) ≤ 40 := by omega
  have hB : (B.size : Int) ≤ 65535 := by omega
  rw [← hN]
  clear hz zB hp hN
  rcases hk with h1 | ⟨h1, h2⟩
  all_goals
    go_enter Try.func19, Try.ntmps19
    go_wp2_with (first | (go_at_call 32; refine (ifits_t (by assumption) _).mono ?_; rintro e w1 ⟨rfl, rfl⟩))
    refine (hck _).mono ?_
    rintro e w1 ⟨rfl, hb⟩
    have hl := bt hl hb
    obtain ⟨⟨c0, c1, c2, c3, c4, c5, c6, c7, c8, c9⟩, -, -⟩ := (hA.later hb).ten
    replace hR := hR.later hb
    clear hb hA hck
    go_wp2_with fail
    refine (he _).mono ?_
    rintro e w2 ⟨rfl, hb⟩
    replace hl := bt hl hb
    obtain ⟨⟨r0, r1, r2, r3, r4⟩, ⟨f0, f1, f2, f3, f4⟩, hlt⟩ := (hR.later hb).five
    clear hR hb he
    rcases m1 with ⟨g, m⟩ | ⟨g, rfl⟩
    · go_wp2
      exact bodyPost_ret (v := .tuple #[.agg #[.int .i64 k, .int .i64 c, .int .i64 0, .int .i64 0, .string (B.extract 0 N)], .int .i64 0]) (by simp [results, Try.results19, go_sem, r0, r1, r2, r3, r4]) rfl ⟨rfl, below5 hl (Nat.le_succ _) _ _ _ _ _⟩
    · go_wp2
      exact bodyPost_ret (v := .tuple #[.agg #[.int .i64 k, .int .i64 c, .int .i64 0, .int .i64 0, .string (B.extract 0 B.size)], .int .i64 0]) (by simp [results, Try.results19, go_sem, r0, r1, r2, r3, r4]) rfl ⟨rfl, below5 hl (Nat.le_succ _) _ _ _ _ _⟩
end Go.Proofs.Ytbbeepkcejiafaa
