/- Plain facts of IP packets: which may be; a boxed struct of any number of cells; the contracts of fits, headLong, dataMayBe and mayBe of package ip. -/
import Derived.Test.YtcjhniehbafhpaaSeals
import Derived.Test.YtcjhniehbafhpaaTxtNum
import Derived.Deep.RegionHeld3
import Derived.Deep.QuietTactic
import Derived.BigQuiet
import Derived.WalkSmall
namespace Go.Proofs.Ytcjhniehbafhpaa
open Go.RowKit
set_option maxRecDepth 100000

def mayQ (f t tl pr id fr : Int) (mo : Bool) (zo zd : Nat) : Prop := (0 ≤ f ∧ f ≤ 4294967295) ∧ (0 ≤ t ∧ t ≤ 4294967295) ∧ (0 ≤ tl ∧ tl ≤ 255) ∧ (0 ≤ pr ∧ pr ≤ 255) ∧ (0 ≤ id ∧ id ≤ 65535) ∧ (0 ≤ fr ∧ fr ≤ 8191) ∧ zo % 4 = 0 ∧ zo ≤ 40 ∧ (mo = true → zd ≠ 0 ∧ zd % 8 = 0) ∧ 20 + zo + zd ≤ 65535 ∧ fr * 8 + zd ≤ 65535
instance (f t tl pr id fr : Int) (mo : Bool) (zo zd : Nat) : Decidable (mayQ f t tl pr id fr mo zo zd) := by unfold mayQ; infer_instance
def mayP (f t tl pr id fr : Int) (mo : Bool) (zo zd : Nat) : Bool := decide (mayQ f t tl pr id fr mo zo zd)
theorem mayP_t {f t tl pr id fr : Int} {mo : Bool} {zo zd : Nat} (h : mayQ f t tl pr id fr mo zo zd) : mayP f t tl pr id fr mo zo zd = true := decide_eq_true h
theorem mayP_f {f t tl pr id fr : Int} {mo : Bool} {zo zd : Nat} (h : ¬ mayQ f t tl pr id fr mo zo zd) : mayP f t tl pr id fr mo zo zd = false := decide_eq_false h
theorem mayP_q {f t tl pr id fr : Int} {mo : Bool} {zo zd : Nat} (h : mayP f t tl pr id fr mo zo zd = true) : mayQ f t tl pr id fr mo zo zd := of_decide_eq_true h
def dataB (fr : Int) (mo : Bool) (zo zd : Nat) : Bool := decide ((mo = true → zd ≠ 0 ∧ zd % 8 = 0) ∧ 20 + zo + zd ≤ 65535 ∧ fr * 8 + zd ≤ 65535)
def fitB (n m : Int) : Bool := decide (0 ≤ n ∧ n ≤ m)
theorem fitB_t {n m : Int} (h : 0 ≤ n ∧ n ≤ m) : fitB n m = true := decide_eq_true h
theorem fitB_f {n m : Int} (h : ¬ (0 ≤ n ∧ n ≤ m)) : fitB n m = false := decide_eq_false h
def codeP (b : Bool) : Int := if b = true then 0 else 50

theorem bel1 (w : World) (o : Obj) : Below w.heap.size w (w.alloc o) := (Below.refl _ _).alloc (Nat.le_refl _) o
theorem later {w x : World} {a : Addr} {v : Value} (hb : Below w.heap.size w x) (h : w.cell? a = some v) : x.cell? a = some v := (hb.cell (World.block_lt_of_cell? _ _ h)).trans h
/-- A boxed struct: its cells, none of them frozen. -/
def At (W : World) (b : Nat) (vs : Array Value) : Prop := b < W.heap.size ∧ ∀ i v, vs[i]? = some v → W.cell? ⟨b, i, none⟩ = some v ∧ W.frozen? ⟨b, i, none⟩ = false
theorem At.box (w : World) (vs : Array Value) (t : TypeId) : At (w.alloc (.cells vs t)) w.heap.size vs := by
  refine ⟨by simp, fun i v h => ⟨?_, ?_⟩⟩
  · simp [World.cell?_alloc_new, h]
  · rw [frozen?_alloc_cells]; simp [World.frozen?]
theorem At.later {W x : World} {b : Nat} {vs : Array Value} (h : At W b vs) (hb : Below W.heap.size W x) : At x b vs :=
  ⟨Nat.lt_of_lt_of_le h.1 hb.size, fun i v hi => ⟨Ytcjhniehbafhpaa.later hb (h.2 i v hi).1, (hb.frozen (p := ⟨b, i, none⟩) h.1).trans (h.2 i v hi).2⟩⟩
theorem At.box2 (w : World) (o : Obj) (vs : Array Value) (t : TypeId) : At ((w.alloc o).alloc (.cells vs t)) (w.heap.size + 1) vs := by have := At.box (w.alloc o) vs t; rwa [World.size_alloc] at this
theorem At.ten {W : World} {b : Nat} {v0 v1 v2 v3 v4 v5 v6 v7 v8 v9 : Value} (h : At W b #[v0, v1, v2, v3, v4, v5, v6, v7, v8, v9]) : (W.cell? ⟨b, 0, none⟩ = some v0 ∧ W.cell? ⟨b, 1, none⟩ = some v1 ∧ W.cell? ⟨b, 2, none⟩ = some v2 ∧ W.cell? ⟨b, 3, none⟩ = some v3 ∧ W.cell? ⟨b, 4, none⟩ = some v4 ∧ W.cell? ⟨b, 5, none⟩ = some v5 ∧ W.cell? ⟨b, 6, none⟩ = some v6 ∧ W.cell? ⟨b, 7, none⟩ = some v7 ∧ W.cell? ⟨b, 8, none⟩ = some v8 ∧ W.cell? ⟨b, 9, none⟩ = some v9) ∧ (W.frozen? ⟨b, 0, none⟩ = false ∧ W.frozen? ⟨b, 1, none⟩ = false ∧ W.frozen? ⟨b, 2, none⟩ = false ∧ W.frozen? ⟨b, 3, none⟩ = false ∧ W.frozen? ⟨b, 4, none⟩ = false ∧ W.frozen? ⟨b, 5, none⟩ = false ∧ W.frozen? ⟨b, 6, none⟩ = false ∧ W.frozen? ⟨b, 7, none⟩ = false ∧ W.frozen? ⟨b, 8, none⟩ = false ∧ W.frozen? ⟨b, 9, none⟩ = false) ∧ b < W.heap.size :=
  ⟨⟨(h.2 0 _ rfl).1, (h.2 1 _ rfl).1, (h.2 2 _ rfl).1, (h.2 3 _ rfl).1, (h.2 4 _ rfl).1, (h.2 5 _ rfl).1, (h.2 6 _ rfl).1, (h.2 7 _ rfl).1, (h.2 8 _ rfl).1, (h.2 9 _ rfl).1⟩, ⟨(h.2 0 _ rfl).2, (h.2 1 _ rfl).2, (h.2 2 _ rfl).2, (h.2 3 _ rfl).2, (h.2 4 _ rfl).2, (h.2 5 _ rfl).2, (h.2 6 _ rfl).2, (h.2 7 _ rfl).2, (h.2 8 _ rfl).2, (h.2 9 _ rfl).2⟩, h.1⟩
theorem below10 {w W : World} {b : Nat} (h : Below w.heap.size w W) (hb : w.heap.size ≤ b) (v0 v1 v2 v3 v4 v5 v6 v7 v8 v9 : Value) : Below w.heap.size w ((((((((((W.setCell ⟨b, 0, none⟩ v0).setCell ⟨b, 1, none⟩ v1).setCell ⟨b, 2, none⟩ v2).setCell ⟨b, 3, none⟩ v3).setCell ⟨b, 4, none⟩ v4).setCell ⟨b, 5, none⟩ v5).setCell ⟨b, 6, none⟩ v6).setCell ⟨b, 7, none⟩ v7).setCell ⟨b, 8, none⟩ v8).setCell ⟨b, 9, none⟩ v9) :=
  ((((((((((h.setCell hb _).setCell hb _).setCell hb _).setCell hb _).setCell hb _).setCell hb _).setCell hb _).setCell hb _).setCell hb _).setCell hb _)

theorem fits_any (n m : Int) (w : World) : Calls Try.prog 43 #[.int .i64 n, .int .i64 m] w fun e w' => e = .returned (.bool (fitB n m)) ∧ w' = w := by
  by_cases h : 0 ≤ n
  · by_cases h2 : n ≤ m
    · rw [fitB_t ⟨h, h2⟩]
      go_enter Try.func43, Try.ntmps43
      go_wp2
      go_ret
      exact ⟨rfl, rfl⟩
    · rw [fitB_f fun e => h2 e.2]
      go_enter Try.func43, Try.ntmps43
      go_wp2
      go_ret
      exact ⟨rfl, rfl⟩
  · rw [fitB_f fun e => h e.1]
    go_enter Try.func43, Try.ntmps43
    go_wp2
    go_ret
    exact ⟨rfl, rfl⟩
theorem fits_t {n m : Int} (h : fitB n m = true) (w : World) : Calls Try.prog 43 #[.int .i64 n, .int .i64 m] w fun e w' => e = .returned (.bool true) ∧ w' = w := by have := fits_any n m w; rw [h] at this; exact this
theorem fits_f {n m : Int} (h : fitB n m = false) (w : World) : Calls Try.prog 43 #[.int .i64 n, .int .i64 m] w fun e w' => e = .returned (.bool false) ∧ w' = w := by have := fits_any n m w; rw [h] at this; exact this

theorem ret_bool {a b : Bool} (h : a = b) : Ending.returned (.bool a) = .returned (.bool b) := by rw [h]
theorem hl_any (f t tl pr id fr : Int) (mo dn : Bool) (op da : ByteArray) (w : World) (ho : op.size ≤ 1125899906842624) :
    Calls Try.prog 31 #[.agg #[.int .i64 f, .int .i64 t, .int .i64 tl, .int .i64 pr, .int .i64 id, .int .i64 fr, .bool mo, .bool dn, .string op, .string da]] w fun e w' => e = .returned (.int .i64 (20 + (op.size : Int))) ∧ Below w.heap.size w w' := by
  have ho' : (op.size : Int) ≤ 1125899906842624 := by omega
  go_enter Try.func31, Try.ntmps31
  go_wp2
  go_ret
  exact ⟨rfl, bel1 _ _⟩

set_option maxHeartbeats 1000000 in
theorem dm_any (f t tl pr id fr : Int) (mo dn : Bool) (op da : ByteArray) (w : World) (ho : op.size ≤ 1125899906842624) (hd : da.size ≤ 1125899906842624) (h0 : 0 ≤ fr) (h1 : fr ≤ 8191) :
    Calls Try.prog 44 #[.agg #[.int .i64 f, .int .i64 t, .int .i64 tl, .int .i64 pr, .int .i64 id, .int .i64 fr, .bool mo, .bool dn, .string op, .string da]] w fun e w' => e = .returned (.bool (dataB fr mo op.size da.size)) ∧ Below w.heap.size w w' := by
  have hA := At.box w #[.int .i64 f, .int .i64 t, .int .i64 tl, .int .i64 pr, .int .i64 id, .int .i64 fr, .bool mo, .bool dn, .string op, .string da] 32
  have hl := bel1 w (.cells #[.int .i64 f, .int .i64 t, .int .i64 tl, .int .i64 pr, .int .i64 id, .int .i64 fr, .bool mo, .bool dn, .string op, .string da] 32)
  have hom := ho
  have ho' : (op.size : Int) ≤ 1125899906842624 := by omega
  have hd' : (da.size : Int) ≤ 1125899906842624 := by omega
  by_cases hm : mo = true ∧ (da.size = 0 ∨ da.size % 8 ≠ 0)
  · have hb : dataB fr mo op.size da.size = false := decide_eq_false (fun h => by have := h.1 hm.1; omega)
    rw [hb]; clear hb
    obtain ⟨rfl, hm⟩ := hm
    by_cases hz : (da.size : Int) = 0
    · go_enter Try.func44, Try.ntmps44
      go_wp2
      go_ret
      exact ⟨rfl, bel1 _ _⟩
    · have hz8 : ((da.size : Int) % 8 != 0) = true := by simp; omega
      have hz0 : ((da.size : Int) == 0) = false := by simpa using hz
      go_enter Try.func44, Try.ntmps44
      go_wp2
      go_ret
      exact ⟨rfl, bel1 _ _⟩
  · have hb : dataB fr mo op.size da.size = (decide (20 + (op.size : Int) + (da.size : Int) ≤ 65535) && decide (fr * 8 + (da.size : Int) ≤ 65535)) := by
      unfold dataB
      rw [← Bool.decide_and]
      apply decide_eq_decide.2
      constructor
      · rintro ⟨-, a, b⟩; omega
      · rintro ⟨a, b⟩; refine ⟨fun e => ?_, by omega, b⟩
        have : ¬ (da.size = 0 ∨ da.size % 8 ≠ 0) := fun h => hm ⟨e, h⟩
        omega
    rw [hb]; clear hb
    have hw : mo = false ∨ mo = true ∧ ((da.size : Int) == 0) = false ∧ ((da.size : Int) % 8 != 0) = false := by
      cases mo
      · exact .inl rfl
      · refine .inr ⟨rfl, ?_⟩
        have : ¬ (da.size = 0 ∨ da.size % 8 ≠ 0) := fun h => hm ⟨rfl, h⟩
        constructor
        · rw [beq_eq_false_iff_ne]; omega
        · have : (da.size : Int) % 8 = 0 := by omega
          simp [this]
    clear hm
    by_cases g1 : 20 + (op.size : Int) + (da.size : Int) ≤ 65535
    all_goals
      by_cases g2 : fr * 8 + (da.size : Int) ≤ 65535
      all_goals
        simp only [g1, g2, decide_true, decide_false, Bool.and_true, Bool.and_false]
        rcases hw with rfl | ⟨rfl, q1, q2⟩
        all_goals
          go_enter Try.func44, Try.ntmps44
          go_wp2_with fail
          refine (hl_any _ _ _ _ _ _ _ _ _ _ _ hom).mono ?_
          rintro e w1 ⟨rfl, hb⟩
          have hl := bt hl hb
          obtain ⟨⟨c0, c1, c2, c3, c4, c5, c6, c7, c8, c9⟩, -, -⟩ := (hA.later hb).ten
          clear hA hb
          go_wp2
          go_ret
          first | exact ⟨rfl, hl⟩ | exact ⟨ret_bool (decide_eq_false (by omega)), hl⟩

theorem dataB_f {fr : Int} {mo : Bool} {zo zd : Nat} (h : ¬ ((mo = true → zd ≠ 0 ∧ zd % 8 = 0) ∧ 20 + zo + zd ≤ 65535 ∧ fr * 8 + zd ≤ 65535)) : dataB fr mo zo zd = false := decide_eq_false h
theorem dataB_t {fr : Int} {mo : Bool} {zo zd : Nat} (h : (mo = true → zd ≠ 0 ∧ zd % 8 = 0) ∧ 20 + zo + zd ≤ 65535 ∧ fr * 8 + zd ≤ 65535) : dataB fr mo zo zd = true := decide_eq_true h
theorem may_ways (f t tl pr id fr : Int) (mo : Bool) (zo zd : Nat) :
    (mayP f t tl pr id fr mo zo zd = false ∧ fitB f 4294967295 = false) ∨
    (mayP f t tl pr id fr mo zo zd = false ∧ fitB f 4294967295 = true ∧ fitB t 4294967295 = false) ∨
    (mayP f t tl pr id fr mo zo zd = false ∧ fitB f 4294967295 = true ∧ fitB t 4294967295 = true ∧ fitB tl 255 = false) ∨
    (mayP f t tl pr id fr mo zo zd = false ∧ fitB f 4294967295 = true ∧ fitB t 4294967295 = true ∧ fitB tl 255 = true ∧ fitB pr 255 = false) ∨
    (mayP f t tl pr id fr mo zo zd = false ∧ fitB f 4294967295 = true ∧ fitB t 4294967295 = true ∧ fitB tl 255 = true ∧ fitB pr 255 = true ∧ fitB id 65535 = false) ∨
    (mayP f t tl pr id fr mo zo zd = false ∧ fitB f 4294967295 = true ∧ fitB t 4294967295 = true ∧ fitB tl 255 = true ∧ fitB pr 255 = true ∧ fitB id 65535 = true ∧ fitB fr 8191 = false) ∨
    (mayP f t tl pr id fr mo zo zd = false ∧ fitB f 4294967295 = true ∧ fitB t 4294967295 = true ∧ fitB tl 255 = true ∧ fitB pr 255 = true ∧ fitB id 65535 = true ∧ fitB fr 8191 = true ∧ ((zo : Int) % 4 == 0) = false) ∨
    (mayP f t tl pr id fr mo zo zd = false ∧ fitB f 4294967295 = true ∧ fitB t 4294967295 = true ∧ fitB tl 255 = true ∧ fitB pr 255 = true ∧ fitB id 65535 = true ∧ fitB fr 8191 = true ∧ ((zo : Int) % 4 == 0) = true ∧ 40 < (zo : Int)) ∨
    (mayP f t tl pr id fr mo zo zd = dataB fr mo zo zd ∧ fitB f 4294967295 = true ∧ fitB t 4294967295 = true ∧ fitB tl 255 = true ∧ fitB pr 255 = true ∧ fitB id 65535 = true ∧ fitB fr 8191 = true ∧ ((zo : Int) % 4 == 0) = true ∧ (zo : Int) ≤ 40 ∧ 0 ≤ fr ∧ fr ≤ 8191) := by
  by_cases h1 : 0 ≤ f ∧ f ≤ 4294967295
  · by_cases h2 : 0 ≤ t ∧ t ≤ 4294967295
    · by_cases h3 : 0 ≤ tl ∧ tl ≤ 255
      · by_cases h4 : 0 ≤ pr ∧ pr ≤ 255
        · by_cases h5 : 0 ≤ id ∧ id ≤ 65535
          · by_cases h6 : 0 ≤ fr ∧ fr ≤ 8191
            · by_cases h7 : (zo : Int) % 4 = 0
              · by_cases h8 : (zo : Int) ≤ 40
                · refine .inr (.inr (.inr (.inr (.inr (.inr (.inr (.inr ⟨?_, fitB_t h1, fitB_t h2, fitB_t h3, fitB_t h4, fitB_t h5, fitB_t h6, by simpa using h7, h8, h6.1, h6.2⟩)))))))
                  apply decide_eq_decide.2
                  constructor
                  · intro h; exact h.2.2.2.2.2.2.2.2
                  · intro h; exact ⟨h1, h2, h3, h4, h5, h6, by omega, by omega, h⟩
                · exact .inr (.inr (.inr (.inr (.inr (.inr (.inr (.inl ⟨mayP_f fun h => h8 (by have := h.2.2.2.2.2.2.2.1; omega), fitB_t h1, fitB_t h2, fitB_t h3, fitB_t h4, fitB_t h5, fitB_t h6, by simpa using h7, by omega⟩)))))))
              · exact .inr (.inr (.inr (.inr (.inr (.inr (.inl ⟨mayP_f fun h => h7 (by have := h.2.2.2.2.2.2.1; omega), fitB_t h1, fitB_t h2, fitB_t h3, fitB_t h4, fitB_t h5, fitB_t h6, by simpa using h7⟩))))))
            · exact .inr (.inr (.inr (.inr (.inr (.inl ⟨mayP_f fun h => h6 h.2.2.2.2.2.1, fitB_t h1, fitB_t h2, fitB_t h3, fitB_t h4, fitB_t h5, fitB_f h6⟩)))))
          · exact .inr (.inr (.inr (.inr (.inl ⟨mayP_f fun h => h5 h.2.2.2.2.1, fitB_t h1, fitB_t h2, fitB_t h3, fitB_t h4, fitB_f h5⟩))))
        · exact .inr (.inr (.inr (.inl ⟨mayP_f fun h => h4 h.2.2.2.1, fitB_t h1, fitB_t h2, fitB_t h3, fitB_f h4⟩)))
      · exact .inr (.inr (.inl ⟨mayP_f fun h => h3 h.2.2.1, fitB_t h1, fitB_t h2, fitB_f h3⟩))
    · exact .inr (.inl ⟨mayP_f fun h => h2 h.2.1, fitB_t h1, fitB_f h2⟩)
  · exact .inl ⟨mayP_f fun h => h1 h.1, fitB_f h1⟩

set_option maxHeartbeats 1000000 in
theorem mp_any (f t tl pr id fr : Int) (mo dn : Bool) (op da : ByteArray) (w : World) (ho : op.size ≤ 1125899906842624) (hd : da.size ≤ 1125899906842624) :
    Calls Try.prog 30 #[.agg #[.int .i64 f, .int .i64 t, .int .i64 tl, .int .i64 pr, .int .i64 id, .int .i64 fr, .bool mo, .bool dn, .string op, .string da]] w fun e w' => e = .returned (.bool (mayP f t tl pr id fr mo op.size da.size)) ∧ Below w.heap.size w w' := by
  have ho' : (op.size : Int) ≤ 1125899906842624 := by omega
  have hl := bel1 w (.cells #[.int .i64 f, .int .i64 t, .int .i64 tl, .int .i64 pr, .int .i64 id, .int .i64 fr, .bool mo, .bool dn, .string op, .string da] 32)
  rcases may_ways f t tl pr id fr mo op.size da.size with ⟨hm, a1⟩ | ⟨hm, a1, a2⟩ | ⟨hm, a1, a2, a3⟩ | ⟨hm, a1, a2, a3, a4⟩ | ⟨hm, a1, a2, a3, a4, a5⟩ | ⟨hm, a1, a2, a3, a4, a5, a6⟩ | ⟨hm, a1, a2, a3, a4, a5, a6, a7⟩ | ⟨hm, a1, a2, a3, a4, a5, a6, a7, a8⟩ | ⟨hm, a1, a2, a3, a4, a5, a6, a7, a8, a9, b0⟩
  all_goals rw [hm]; clear hm
  iterate 8 
    · go_enter Try.func30, Try.ntmps30
      go_wp2_with (first | (go_at_call 43; refine (fits_t (by assumption) _).mono ?_; rintro e w1 ⟨rfl, rfl⟩) | (go_at_call 43; refine (fits_f (by assumption) _).mono ?_; rintro e w1 ⟨rfl, rfl⟩))
      go_ret
      exact ⟨rfl, bel1 _ _⟩
  · have hc := fun W => dm_any f t tl pr id fr mo dn op da W ho hd a9 b0
    clear ho hd a9 b0
    generalize dataB fr mo op.size da.size = B at *
    go_enter Try.func30, Try.ntmps30
    go_wp2_with (first | (go_at_call 43; refine (fits_t (by assumption) _).mono ?_; rintro e w1 ⟨rfl, rfl⟩) | (go_at_call 44; refine (hc _).mono ?_; rintro e w1 ⟨rfl, hb⟩))
    go_ret
    exact ⟨rfl, bt hl hb⟩
theorem mp_t {f t tl pr id fr : Int} {mo dn : Bool} {op da : ByteArray} (h : mayP f t tl pr id fr mo op.size da.size = true) (w : World) (ho : op.size ≤ 1125899906842624) (hd : da.size ≤ 1125899906842624) : Calls Try.prog 30 #[.agg #[.int .i64 f, .int .i64 t, .int .i64 tl, .int .i64 pr, .int .i64 id, .int .i64 fr, .bool mo, .bool dn, .string op, .string da]] w fun e w' => e = .returned (.bool true) ∧ Below w.heap.size w w' := by
  have := mp_any f t tl pr id fr mo dn op da w ho hd; rw [h] at this; exact this
theorem mp_f {f t tl pr id fr : Int} {mo dn : Bool} {op da : ByteArray} (h : mayP f t tl pr id fr mo op.size da.size = false) (w : World) (ho : op.size ≤ 1125899906842624) (hd : da.size ≤ 1125899906842624) : Calls Try.prog 30 #[.agg #[.int .i64 f, .int .i64 t, .int .i64 tl, .int .i64 pr, .int .i64 id, .int .i64 fr, .bool mo, .bool dn, .string op, .string da]] w fun e w' => e = .returned (.bool false) ∧ Below w.heap.size w w' := by
  have := mp_any f t tl pr id fr mo dn op da w ho hd; rw [h] at this; exact this
end Go.Proofs.Ytcjhniehbafhpaa
