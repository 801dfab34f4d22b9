/- the texts PPks, PChk, PGat, PCut, PPcs, in part, merged by program -/
import Derived.Test.YthjbmloemmggaaaGreatDoorRows
import Derived.Deep.RegionHeld3
import Derived.Deep.QuietTactic
import Derived.BigQuiet
import Derived.WalkSmall
import Derived.WalkKit
import Derived.WalkSpells
import Derived.Deep.RegionWith
import Derived.LoopN
import Derived.Laws.AppendOwn
import Derived.Laws.AppendOwnNone
import Derived.Carry
import Derived.Laws.OwnMore
import Derived.Test.YthjbmloemmggaaaGreatDoorMA01
namespace Go.Proofs.YthjbmloemmggaaaGreatDoor.Ip
open Go.RowKit
set_option maxRecDepth 100000

def mayQ (f t tl pr id fr : Int) (mo : Bool) (zo zd : Nat) : Prop := (0 ≤ f ∧ f ≤ 4294967295) ∧ (0 ≤ t ∧ t ≤ 4294967295) ∧ (0 ≤ tl ∧ tl ≤ 255) ∧ (0 ≤ pr ∧ pr ≤ 255) ∧ (0 ≤ id ∧ id ≤ 65535) ∧ (0 ≤ fr ∧ fr ≤ 8191) ∧ zo % 4 = 0 ∧ zo ≤ 40 ∧ (mo = true → zd ≠ 0 ∧ zd % 8 = 0) ∧ 20 + zo + zd ≤ 65535 ∧ fr * 8 + zd ≤ 65535
instance (f t tl pr id fr : Int) (mo : Bool) (zo zd : Nat) : Decidable (mayQ f t tl pr id fr mo zo zd) := by unfold mayQ; infer_instance
def mayP (f t tl pr id fr : Int) (mo : Bool) (zo zd : Nat) : Bool := decide (mayQ f t tl pr id fr mo zo zd)
theorem mayP_t {f t tl pr id fr : Int} {mo : Bool} {zo zd : Nat} (h : mayQ f t tl pr id fr mo zo zd) : mayP f t tl pr id fr mo zo zd = true := decide_eq_true h
theorem mayP_f {f t tl pr id fr : Int} {mo : Bool} {zo zd : Nat} (h : ¬ mayQ f t tl pr id fr mo zo zd) : mayP f t tl pr id fr mo zo zd = false := decide_eq_false h
theorem mayP_q {f t tl pr id fr : Int} {mo : Bool} {zo zd : Nat} (h : mayP f t tl pr id fr mo zo zd = true) : mayQ f t tl pr id fr mo zo zd := of_decide_eq_true h
def dataB (fr : Int) (mo : Bool) (zo zd : Nat) : Bool := decide ((mo = true → zd ≠ 0 ∧ zd % 8 = 0) ∧ 20 + zo + zd ≤ 65535 ∧ fr * 8 + zd ≤ 65535)
def fitB (n m : Int) : Bool := decide (0 ≤ n ∧ n ≤ m)
theorem fitB_t {n m : Int} (h : 0 ≤ n ∧ n ≤ m) : fitB n m = true := decide_eq_true h
theorem fitB_f {n m : Int} (h : ¬ (0 ≤ n ∧ n ≤ m)) : fitB n m = false := decide_eq_false h
theorem bel1 (w : World) (o : Obj) : Below w.heap.size w (w.alloc o) := (Below.refl _ _).alloc (Nat.le_refl _) o
theorem later {w x : World} {a : Addr} {v : Value} (hb : Below w.heap.size w x) (h : w.cell? a = some v) : x.cell? a = some v := (hb.cell (World.block_lt_of_cell? _ _ h)).trans h
def At (W : World) (b : Nat) (vs : Array Value) : Prop := b < W.heap.size ∧ ∀ i v, vs[i]? = some v → W.cell? ⟨b, i, none⟩ = some v ∧ W.frozen? ⟨b, i, none⟩ = false
theorem At.box (w : World) (vs : Array Value) (t : TypeId) : At (w.alloc (.cells vs t)) w.heap.size vs := by
  refine ⟨by simp, fun i v h => ⟨?_, ?_⟩⟩
  · simp [World.cell?_alloc_new, h]
  · rw [frozen?_alloc_cells]; simp [World.frozen?]
theorem At.later {W x : World} {b : Nat} {vs : Array Value} (h : At W b vs) (hb : Below W.heap.size W x) : At x b vs :=
  ⟨Nat.lt_of_lt_of_le h.1 hb.size, fun i v hi => ⟨YthjbmloemmggaaaGreatDoor.Ip.later hb (h.2 i v hi).1, (hb.frozen (p := ⟨b, i, none⟩) h.1).trans (h.2 i v hi).2⟩⟩
theorem At.box2 (w : World) (o : Obj) (vs : Array Value) (t : TypeId) : At ((w.alloc o).alloc (.cells vs t)) (w.heap.size + 1) vs := by have := At.box (w.alloc o) vs t; rwa [World.size_alloc] at this
theorem At.ten {W : World} {b : Nat} {v0 v1 v2 v3 v4 v5 v6 v7 v8 v9 : Value} (h : At W b #[v0, v1, v2, v3, v4, v5, v6, v7, v8, v9]) : (W.cell? ⟨b, 0, none⟩ = some v0 ∧ W.cell? ⟨b, 1, none⟩ = some v1 ∧ W.cell? ⟨b, 2, none⟩ = some v2 ∧ W.cell? ⟨b, 3, none⟩ = some v3 ∧ W.cell? ⟨b, 4, none⟩ = some v4 ∧ W.cell? ⟨b, 5, none⟩ = some v5 ∧ W.cell? ⟨b, 6, none⟩ = some v6 ∧ W.cell? ⟨b, 7, none⟩ = some v7 ∧ W.cell? ⟨b, 8, none⟩ = some v8 ∧ W.cell? ⟨b, 9, none⟩ = some v9) ∧ (W.frozen? ⟨b, 0, none⟩ = false ∧ W.frozen? ⟨b, 1, none⟩ = false ∧ W.frozen? ⟨b, 2, none⟩ = false ∧ W.frozen? ⟨b, 3, none⟩ = false ∧ W.frozen? ⟨b, 4, none⟩ = false ∧ W.frozen? ⟨b, 5, none⟩ = false ∧ W.frozen? ⟨b, 6, none⟩ = false ∧ W.frozen? ⟨b, 7, none⟩ = false ∧ W.frozen? ⟨b, 8, none⟩ = false ∧ W.frozen? ⟨b, 9, none⟩ = false) ∧ b < W.heap.size :=
  ⟨⟨(h.2 0 _ rfl).1, (h.2 1 _ rfl).1, (h.2 2 _ rfl).1, (h.2 3 _ rfl).1, (h.2 4 _ rfl).1, (h.2 5 _ rfl).1, (h.2 6 _ rfl).1, (h.2 7 _ rfl).1, (h.2 8 _ rfl).1, (h.2 9 _ rfl).1⟩, ⟨(h.2 0 _ rfl).2, (h.2 1 _ rfl).2, (h.2 2 _ rfl).2, (h.2 3 _ rfl).2, (h.2 4 _ rfl).2, (h.2 5 _ rfl).2, (h.2 6 _ rfl).2, (h.2 7 _ rfl).2, (h.2 8 _ rfl).2, (h.2 9 _ rfl).2⟩, h.1⟩
theorem below10 {w W : World} {b : Nat} (h : Below w.heap.size w W) (hb : w.heap.size ≤ b) (v0 v1 v2 v3 v4 v5 v6 v7 v8 v9 : Value) : Below w.heap.size w ((((((((((W.setCell ⟨b, 0, none⟩ v0).setCell ⟨b, 1, none⟩ v1).setCell ⟨b, 2, none⟩ v2).setCell ⟨b, 3, none⟩ v3).setCell ⟨b, 4, none⟩ v4).setCell ⟨b, 5, none⟩ v5).setCell ⟨b, 6, none⟩ v6).setCell ⟨b, 7, none⟩ v7).setCell ⟨b, 8, none⟩ v8).setCell ⟨b, 9, none⟩ v9) :=
  ((((((((((h.setCell hb _).setCell hb _).setCell hb _).setCell hb _).setCell hb _).setCell hb _).setCell hb _).setCell hb _).setCell hb _).setCell hb _)

theorem fits_any (n m : Int) (w : World) : Calls Tryz.prog 36 #[.int .i64 n, .int .i64 m] w fun e w' => e = .returned (.bool (fitB n m)) ∧ w' = w := by
  by_cases h : 0 ≤ n
  · by_cases h2 : n ≤ m
    · rw [fitB_t ⟨h, h2⟩]
      go_enter Tryz.func36, Tryz.ntmps36
      go_wp2
      go_ret
      exact ⟨rfl, rfl⟩
    · rw [fitB_f fun e => h2 e.2]
      go_enter Tryz.func36, Tryz.ntmps36
      go_wp2
      go_ret
      exact ⟨rfl, rfl⟩
  · rw [fitB_f fun e => h e.1]
    go_enter Tryz.func36, Tryz.ntmps36
    go_wp2
    go_ret
    exact ⟨rfl, rfl⟩
theorem fits_t {n m : Int} (h : fitB n m = true) (w : World) : Calls Tryz.prog 36 #[.int .i64 n, .int .i64 m] w fun e w' => e = .returned (.bool true) ∧ w' = w := by have := fits_any n m w; rw [h] at this; exact this
theorem fits_f {n m : Int} (h : fitB n m = false) (w : World) : Calls Tryz.prog 36 #[.int .i64 n, .int .i64 m] w fun e w' => e = .returned (.bool false) ∧ w' = w := by have := fits_any n m w; rw [h] at this; exact this

theorem ret_bool {a b : Bool} (h : a = b) : Ending.returned (.bool a) = .returned (.bool b) := by rw [h]
theorem hl_any (f t tl pr id fr : Int) (mo dn : Bool) (op da : ByteArray) (w : World) (ho : op.size ≤ 1125899906842624) :
    Calls Tryz.prog 17 #[.agg #[.int .i64 f, .int .i64 t, .int .i64 tl, .int .i64 pr, .int .i64 id, .int .i64 fr, .bool mo, .bool dn, .string op, .string da]] w fun e w' => e = .returned (.int .i64 (20 + (op.size : Int))) ∧ Below w.heap.size w w' := by
  have ho' : (op.size : Int) ≤ 1125899906842624 := by omega
  go_enter Tryz.func17, Tryz.ntmps17
  go_wp2
  go_ret
  exact ⟨rfl, bel1 _ _⟩

set_option maxHeartbeats 1000000 in
theorem dm_any (f t tl pr id fr : Int) (mo dn : Bool) (op da : ByteArray) (w : World) (ho : op.size ≤ 1125899906842624) (hd : da.size ≤ 1125899906842624) (h0 : 0 ≤ fr) (h1 : fr ≤ 8191) :
    Calls Tryz.prog 37 #[.agg #[.int .i64 f, .int .i64 t, .int .i64 tl, .int .i64 pr, .int .i64 id, .int .i64 fr, .bool mo, .bool dn, .string op, .string da]] w fun e w' => e = .returned (.bool (dataB fr mo op.size da.size)) ∧ Below w.heap.size w w' := by
  have hA := At.box w #[.int .i64 f, .int .i64 t, .int .i64 tl, .int .i64 pr, .int .i64 id, .int .i64 fr, .bool mo, .bool dn, .string op, .string da] 23
  have hl := bel1 w (.cells #[.int .i64 f, .int .i64 t, .int .i64 tl, .int .i64 pr, .int .i64 id, .int .i64 fr, .bool mo, .bool dn, .string op, .string da] 23)
  have hom := ho
  have ho' : (op.size : Int) ≤ 1125899906842624 := by omega
  have hd' : (da.size : Int) ≤ 1125899906842624 := by omega
  by_cases hm : mo = true ∧ (da.size = 0 ∨ da.size % 8 ≠ 0)
  · have hb : dataB fr mo op.size da.size = false := decide_eq_false (fun h => by have := h.1 hm.1; omega)
    rw [hb]; clear hb
    obtain ⟨rfl, hm⟩ := hm
    by_cases hz : (da.size : Int) = 0
    · go_enter Tryz.func37, Tryz.ntmps37
      go_wp2
      go_ret
      exact ⟨rfl, bel1 _ _⟩
    · have hz8 : ((da.size : Int) % 8 != 0) = true := by simp; omega
      have hz0 : ((da.size : Int) == 0) = false := by simpa using hz
      go_enter Tryz.func37, Tryz.ntmps37
      go_wp2
      go_ret
      exact ⟨rfl, bel1 _ _⟩
  · have hb : dataB fr mo op.size da.size = (decide (20 + (op.size : Int) + (da.size : Int) ≤ 65535) && decide (fr * 8 + (da.size : Int) ≤ 65535)) := by
      unfold dataB
      rw [← Bool.decide_and]
      apply decide_eq_decide.2
      constructor
      · rintro ⟨-, a, b⟩; omega
      · rintro ⟨a, b⟩; refine ⟨fun e => ?_, by omega, b⟩
        have : ¬ (da.size = 0 ∨ da.size % 8 ≠ 0) := fun h => hm ⟨e, h⟩
        omega
    rw [hb]; clear hb
    have hw : mo = false ∨ mo = true ∧ ((da.size : Int) == 0) = false ∧ ((da.size : Int) % 8 != 0) = false := by
      cases mo
      · exact .inl rfl
      · refine .inr ⟨rfl, ?_⟩
        have : ¬ (da.size = 0 ∨ da.size % 8 ≠ 0) := fun h => hm ⟨rfl, h⟩
        constructor
        · rw [beq_eq_false_iff_ne]; omega
        · have : (da.size : Int) % 8 = 0 := by omega
          simp [this]
    clear hm
    by_cases g1 : 20 + (op.size : Int) + (da.size : Int) ≤ 65535
    all_goals
      by_cases g2 : fr * 8 + (da.size : Int) ≤ 65535
      all_goals
        simp only [g1, g2, decide_true, decide_false, Bool.and_true, Bool.and_false]
        rcases hw with rfl | ⟨rfl, q1, q2⟩
        all_goals
          go_enter Tryz.func37, Tryz.ntmps37
          go_wp2_with fail
          refine (hl_any _ _ _ _ _ _ _ _ _ _ _ hom).mono ?_
          rintro e w1 ⟨rfl, hb⟩
          have hl := bt hl hb
          obtain ⟨⟨c0, c1, c2, c3, c4, c5, c6, c7, c8, c9⟩, -, -⟩ := (hA.later hb).ten
          clear hA hb
          go_wp2
          go_ret
          first | exact ⟨rfl, hl⟩ | exact ⟨ret_bool (decide_eq_false (by omega)), hl⟩

theorem may_ways (f t tl pr id fr : Int) (mo : Bool) (zo zd : Nat) :
    (mayP f t tl pr id fr mo zo zd = false ∧ fitB f 4294967295 = false) ∨
    (mayP f t tl pr id fr mo zo zd = false ∧ fitB f 4294967295 = true ∧ fitB t 4294967295 = false) ∨
    (mayP f t tl pr id fr mo zo zd = false ∧ fitB f 4294967295 = true ∧ fitB t 4294967295 = true ∧ fitB tl 255 = false) ∨
    (mayP f t tl pr id fr mo zo zd = false ∧ fitB f 4294967295 = true ∧ fitB t 4294967295 = true ∧ fitB tl 255 = true ∧ fitB pr 255 = false) ∨
    (mayP f t tl pr id fr mo zo zd = false ∧ fitB f 4294967295 = true ∧ fitB t 4294967295 = true ∧ fitB tl 255 = true ∧ fitB pr 255 = true ∧ fitB id 65535 = false) ∨
    (mayP f t tl pr id fr mo zo zd = false ∧ fitB f 4294967295 = true ∧ fitB t 4294967295 = true ∧ fitB tl 255 = true ∧ fitB pr 255 = true ∧ fitB id 65535 = true ∧ fitB fr 8191 = false) ∨
    (mayP f t tl pr id fr mo zo zd = false ∧ fitB f 4294967295 = true ∧ fitB t 4294967295 = true ∧ fitB tl 255 = true ∧ fitB pr 255 = true ∧ fitB id 65535 = true ∧ fitB fr 8191 = true ∧ ((zo : Int) % 4 == 0) = false) ∨
    (mayP f t tl pr id fr mo zo zd = false ∧ fitB f 4294967295 = true ∧ fitB t 4294967295 = true ∧ fitB tl 255 = true ∧ fitB pr 255 = true ∧ fitB id 65535 = true ∧ fitB fr 8191 = true ∧ ((zo : Int) % 4 == 0) = true ∧ 40 < (zo : Int)) ∨
    (mayP f t tl pr id fr mo zo zd = dataB fr mo zo zd ∧ fitB f 4294967295 = true ∧ fitB t 4294967295 = true ∧ fitB tl 255 = true ∧ fitB pr 255 = true ∧ fitB id 65535 = true ∧ fitB fr 8191 = true ∧ ((zo : Int) % 4 == 0) = true ∧ (zo : Int) ≤ 40 ∧ 0 ≤ fr ∧ fr ≤ 8191) := by
  by_cases h1 : 0 ≤ f ∧ f ≤ 4294967295
  · by_cases h2 : 0 ≤ t ∧ t ≤ 4294967295
    · by_cases h3 : 0 ≤ tl ∧ tl ≤ 255
      · by_cases h4 : 0 ≤ pr ∧ pr ≤ 255
        · by_cases h5 : 0 ≤ id ∧ id ≤ 65535
          · by_cases h6 : 0 ≤ fr ∧ fr ≤ 8191
            · by_cases h7 : (zo : Int) % 4 = 0
              · by_cases h8 : (zo : Int) ≤ 40
                · refine .inr (.inr (.inr (.inr (.inr (.inr (.inr (.inr ⟨?_, fitB_t h1, fitB_t h2, fitB_t h3, fitB_t h4, fitB_t h5, fitB_t h6, by simpa using h7, h8, h6.1, h6.2⟩)))))))
                  apply decide_eq_decide.2
                  constructor
                  · intro h; exact h.2.2.2.2.2.2.2.2
                  · intro h; exact ⟨h1, h2, h3, h4, h5, h6, by omega, by omega, h⟩
                · exact .inr (.inr (.inr (.inr (.inr (.inr (.inr (.inl ⟨mayP_f fun h => h8 (by have := h.2.2.2.2.2.2.2.1; omega), fitB_t h1, fitB_t h2, fitB_t h3, fitB_t h4, fitB_t h5, fitB_t h6, by simpa using h7, by omega⟩)))))))
              · exact .inr (.inr (.inr (.inr (.inr (.inr (.inl ⟨mayP_f fun h => h7 (by have := h.2.2.2.2.2.2.1; omega), fitB_t h1, fitB_t h2, fitB_t h3, fitB_t h4, fitB_t h5, fitB_t h6, by simpa using h7⟩))))))
            · exact .inr (.inr (.inr (.inr (.inr (.inl ⟨mayP_f fun h => h6 h.2.2.2.2.2.1, fitB_t h1, fitB_t h2, fitB_t h3, fitB_t h4, fitB_t h5, fitB_f h6⟩)))))
          · exact .inr (.inr (.inr (.inr (.inl ⟨mayP_f fun h => h5 h.2.2.2.2.1, fitB_t h1, fitB_t h2, fitB_t h3, fitB_t h4, fitB_f h5⟩))))
        · exact .inr (.inr (.inr (.inl ⟨mayP_f fun h => h4 h.2.2.2.1, fitB_t h1, fitB_t h2, fitB_t h3, fitB_f h4⟩)))
      · exact .inr (.inr (.inl ⟨mayP_f fun h => h3 h.2.2.1, fitB_t h1, fitB_t h2, fitB_f h3⟩))
    · exact .inr (.inl ⟨mayP_f fun h => h2 h.2.1, fitB_t h1, fitB_f h2⟩)
  · exact .inl ⟨mayP_f fun h => h1 h.1, fitB_f h1⟩

set_option maxHeartbeats 1000000 in
theorem mp_any (f t tl pr id fr : Int) (mo dn : Bool) (op da : ByteArray) (w : World) (ho : op.size ≤ 1125899906842624) (hd : da.size ≤ 1125899906842624) :
    Calls Tryz.prog 16 #[.agg #[.int .i64 f, .int .i64 t, .int .i64 tl, .int .i64 pr, .int .i64 id, .int .i64 fr, .bool mo, .bool dn, .string op, .string da]] w fun e w' => e = .returned (.bool (mayP f t tl pr id fr mo op.size da.size)) ∧ Below w.heap.size w w' := by
  have ho' : (op.size : Int) ≤ 1125899906842624 := by omega
  have hl := bel1 w (.cells #[.int .i64 f, .int .i64 t, .int .i64 tl, .int .i64 pr, .int .i64 id, .int .i64 fr, .bool mo, .bool dn, .string op, .string da] 23)
  rcases may_ways f t tl pr id fr mo op.size da.size with ⟨hm, a1⟩ | ⟨hm, a1, a2⟩ | ⟨hm, a1, a2, a3⟩ | ⟨hm, a1, a2, a3, a4⟩ | ⟨hm, a1, a2, a3, a4, a5⟩ | ⟨hm, a1, a2, a3, a4, a5, a6⟩ | ⟨hm, a1, a2, a3, a4, a5, a6, a7⟩ | ⟨hm, a1, a2, a3, a4, a5, a6, a7, a8⟩ | ⟨hm, a1, a2, a3, a4, a5, a6, a7, a8, a9, b0⟩
  all_goals rw [hm]; clear hm
  iterate 8 
    · go_enter Tryz.func16, Tryz.ntmps16
      go_wp2_with (first | (go_at_call 36; refine (fits_t (by assumption) _).mono ?_; rintro e w1 ⟨rfl, rfl⟩) | (go_at_call 36; refine (fits_f (by assumption) _).mono ?_; rintro e w1 ⟨rfl, rfl⟩))
      go_ret
      exact ⟨rfl, bel1 _ _⟩
  · have hc := fun W => dm_any f t tl pr id fr mo dn op da W ho hd a9 b0
    clear ho hd a9 b0
    generalize dataB fr mo op.size da.size = B at *
    go_enter Tryz.func16, Tryz.ntmps16
    go_wp2_with (first | (go_at_call 36; refine (fits_t (by assumption) _).mono ?_; rintro e w1 ⟨rfl, rfl⟩) | (go_at_call 37; refine (hc _).mono ?_; rintro e w1 ⟨rfl, hb⟩))
    go_ret
    exact ⟨rfl, bt hl hb⟩
theorem mp_t {f t tl pr id fr : Int} {mo dn : Bool} {op da : ByteArray} (h : mayP f t tl pr id fr mo op.size da.size = true) (w : World) (ho : op.size ≤ 1125899906842624) (hd : da.size ≤ 1125899906842624) : Calls Tryz.prog 16 #[.agg #[.int .i64 f, .int .i64 t, .int .i64 tl, .int .i64 pr, .int .i64 id, .int .i64 fr, .bool mo, .bool dn, .string op, .string da]] w fun e w' => e = .returned (.bool true) ∧ Below w.heap.size w w' := by
  have := mp_any f t tl pr id fr mo dn op da w ho hd; rw [h] at this; exact this
theorem mp_f {f t tl pr id fr : Int} {mo dn : Bool} {op da : ByteArray} (h : mayP f t tl pr id fr mo op.size da.size = false) (w : World) (ho : op.size ≤ 1125899906842624) (hd : da.size ≤ 1125899906842624) : Calls Tryz.prog 16 #[.agg #[.int .i64 f, .int .i64 t, .int .i64 tl, .int .i64 pr, .int .i64 id, .int .i64 fr, .bool mo, .bool dn, .string op, .string da]] w fun e w' => e = .returned (.bool false) ∧ Below w.heap.size w w' := by
  have := mp_any f t tl pr id fr mo dn op da w ho hd; rw [h] at this; exact this
end Go.Proofs.YthjbmloemmggaaaGreatDoor.Ip

namespace Go.Proofs.YthjbmloemmggaaaGreatDoor.Ip
open Go.RowKit
set_option maxRecDepth 100000
theorem chk_t {f t tl pr id fr : Int} {mo dn : Bool} {op da : ByteArray} (h : mayP f t tl pr id fr mo op.size da.size = true) (w : World) (ho : op.size ≤ 1125899906842624) (hd : da.size ≤ 1125899906842624) : Calls Tryz.prog 32 #[.agg #[.int .i64 f, .int .i64 t, .int .i64 tl, .int .i64 pr, .int .i64 id, .int .i64 fr, .bool mo, .bool dn, .string op, .string da]] w fun e w' => e = .returned (.int .i64 0) ∧ Below w.heap.size w w' := by
  have hl := bel1 w (.cells #[.int .i64 f, .int .i64 t, .int .i64 tl, .int .i64 pr, .int .i64 id, .int .i64 fr, .bool mo, .bool dn, .string op, .string da] 23)
  go_enter Tryz.func32, Tryz.ntmps32
  go_wp2_with fail
  refine (mp_t h _ ho hd).mono ?_
  rintro e w1 ⟨rfl, hb⟩
  go_wp2
  go_ret
  exact ⟨rfl, bt hl hb⟩
def wholeB (fr : Int) (mo : Bool) : Bool := decide (fr = 0) && !mo
theorem whl_any (f t tl pr id fr : Int) (mo dn : Bool) (op da : ByteArray) (w : World) : Calls Tryz.prog 34 #[.agg #[.int .i64 f, .int .i64 t, .int .i64 tl, .int .i64 pr, .int .i64 id, .int .i64 fr, .bool mo, .bool dn, .string op, .string da]] w fun e w' => e = .returned (.bool (wholeB fr mo)) ∧ Below w.heap.size w w' := by
  unfold wholeB
  by_cases h : fr = 0
  · rw [decide_eq_true h]
    go_enter Tryz.func34, Tryz.ntmps34
    go_wp2
    go_ret
    exact ⟨ret_bool (by simp), bel1 _ _⟩
  · rw [decide_eq_false h]
    have h' : (fr == 0) = false := by simpa using h
    go_enter Tryz.func34, Tryz.ntmps34
    go_wp2
    go_ret
    exact ⟨rfl, bel1 _ _⟩
end Go.Proofs.YthjbmloemmggaaaGreatDoor.Ip

namespace Go.Proofs.YthjbmloemmggaaaGreatDoor.Ip
open Go.RowKit
set_option maxRecDepth 100000

theorem info23 : (Tryz.prog.info? 23).map (fun i => (i.zero, i.size, i.bytes)) = some (some (.agg #[.int .i64 0, .int .i64 0, .int .i64 0, .int .i64 0, .int .i64 0, .int .i64 0, .bool false, .bool false, .string ⟨#[]⟩, .string ⟨#[]⟩]), 10, 88) := by kernel_rfl
theorem grownBy_setCell (w : World) (a : Addr) (v : Value) : w.grownBy (w.setCell a v) (some a.block) :=
  ⟨rfl, rfl, rfl, by simp [World.setCell], fun k _ hk => by
    have hne : a.block ≠ k := fun e => hk (by rw [e])
    simp only [World.setCell]
    simp [Array.getElem?_modify, hne]⟩
theorem own_setCell {w : World} {base : Nat} {e : TypeId} {size n : Nat} {v : Value} {xs : List Value} (h : w.ownsRow base e size v n xs) (b j : Nat) (u : Value) (hb : b < base) : (w.setCell ⟨b, j, none⟩ u).ownsRow base e size v n xs :=
  h.kept (grownBy_setCell w ⟨b, j, none⟩ u) (by
    cases hv : v.ownBlock with
    | none => exact .inl rfl
    | some k => exact .inr (fun e => by have := (h.lt k hv).1; simp at e; omega))
theorem one10 (f t tl pr id fr : Int) (mo dn : Bool) (op da : ByteArray) : ∀ u ∈ ([.int .i64 f, .int .i64 t, .int .i64 tl, .int .i64 pr, .int .i64 id, .int .i64 fr, .bool mo, .bool dn, .string op, .string da] : List Value), u.oneCell' = true := by
  intro u hu
  simp only [List.mem_cons, List.not_mem_nil, or_false] at hu
  rcases hu with rfl | rfl | rfl | rfl | rfl | rfl | rfl | rfl | rfl | rfl <;> rfl

set_option maxRecDepth 100000 in
set_option maxHeartbeats 4000000 in
theorem gather_any (f t tl pr id fr : Int) (mo dn : Bool) (op da : ByteArray) (x y : Int) (more : Bool) (w0 W : World) (base0 b B R0 n : Nat) (v : Value) (xs : List Value)
    (hx0 : 0 ≤ x) (hxy : x ≤ y) (hy : y ≤ (da.size : Int)) (hd : (da.size : Int) ≤ 65535) (hf0 : 0 ≤ fr) (hf1 : fr ≤ 8191) (hn : n ≤ 65535)
    (hbel : Below base0 w0 W) (hb0 : base0 ≤ b) (hB0 : base0 ≤ B) (hbB : b < B) (hBR : B < R0) (hR : R0 ≤ W.heap.size) (hp : At W b #[.int .i64 f, .int .i64 t, .int .i64 tl, .int .i64 pr, .int .i64 id, .int .i64 fr, .bool mo, .bool dn, .string op, .string da]) (hB : At W B #[v]) (hown : W.ownsRow R0 23 10 v n xs) :
    Calls Tryz.prog 38 #[.int .i64 x, .int .i64 y, .bool more, .pointer (some ⟨b, 0, none⟩), .pointer (some ⟨B, 0, none⟩)] W fun e w' => ∃ v', e = .returned (.tuple #[]) ∧ Below base0 w0 w' ∧ R0 ≤ w'.heap.size ∧ At w' b #[.int .i64 f, .int .i64 t, .int .i64 tl, .int .i64 pr, .int .i64 id, .int .i64 fr, .bool mo, .bool dn, .string op, .string da] ∧ At w' B #[v'] ∧ w'.ownsRow R0 23 10 v' (n + 1) (xs ++ [.int .i64 f, .int .i64 t, .int .i64 tl, .int .i64 pr, .int .i64 id, .int .i64 (fr + x / 8), .bool more, .bool dn, .string op, .string (da.extract x.toNat y.toNat)]) ∧ v' ≠ .slice none 0 0 := by
  obtain ⟨i0, hi, hz0, hz1, hz2⟩ := info_parts info23
  obtain ⟨⟨c0, c1, c2, c3, c4, c5, c6, c7, c8, c9⟩, -, -⟩ := hp.ten
  have hq := hB.2 0 v rfl
  have hx8 : 0 ≤ x / 8 := by omega
  have hx9 : x / 8 ≤ 8191 := by omega
  have hne1 : b ≠ W.heap.size := by have := hp.1; omega
  have hne2 : B ≠ W.heap.size := by have := hB.1; omega
  have hc9 : ∀ o, (W.alloc o).cell? ⟨b, 9, none⟩ = some (.string da) := fun o => later (bel1 W o) c9
  have hcB : ∀ o, (W.alloc o).cell? ⟨B, 0, none⟩ = some v := fun o => later (bel1 W o) hq.1
  have hx10 : 0 ≤ y := by omega
  have hx11 : x ≤ (da.size : Int) := by omega
  go_enter Tryz.func38, Tryz.ntmps38
  go_wp2_with (first | (at_builtin; refine wpList_append_own _ rfl _ _ 26 rfl R0 23 i0 (.agg #[.int .i64 0, .int .i64 0, .int .i64 0, .int .i64 0, .int .i64 0, .int .i64 0, .bool false, .bool false, .string ⟨#[]⟩, .string ⟨#[]⟩]) 10 88 Tryz.underlying26 hi hz0 hz1 hz2 rfl (by decide) v n xs rfl ((hown.alloc _).alloc _) ⟨W.heap.size + 1, 0, none⟩ 1 1 [.int .i64 f, .int .i64 t, .int .i64 tl, .int .i64 pr, .int .i64 id, .int .i64 (fr + x / 8), .bool more, .bool dn, .string op, .string (da.extract x.toNat y.toNat)] rfl rfl ?c1 (one10 _ _ _ _ _ _ _ _ _ _) ?c3 ?c4 ?c5 ?_))
  case c1 =>
    intro j u hu
    rw [Addr.add_lit, Nat.zero_add]
    have := (At.box (W.alloc (.cells #[.int .i64 f, .int .i64 t, .int .i64 tl, .int .i64 pr, .int .i64 id, .int .i64 (fr + x / 8), .bool more, .bool dn, .string op, .string (da.extract x.toNat y.toNat)] 23)) #[.int .i64 f, .int .i64 t, .int .i64 tl, .int .i64 pr, .int .i64 id, .int .i64 (fr + x / 8), .bool more, .bool dn, .string op, .string (da.extract x.toNat y.toNat)] 23).2 j u (by simpa using hu)
    rw [World.size_alloc] at this
    exact this.1
  case c3 => unfold maxLen; omega
  case c4 => omega
  case c5 => simp; omega
  intro v' w4 hown4 hgrow hnil
  have hB1 : Below base0 w0 w4 := ((hbel.alloc (by omega) _).alloc (by simp; omega) _).grown hgrow (by simp; omega) (fun k e => by have := (hown.lt k e).1; omega)
  have hkeep : ∀ k, k < R0 → w4.heap[k]? = W.heap[k]? := by
    intro k hk
    have h1 := hgrow.block k (by simp; omega) (fun e => by have := (hown.lt k e.symm).1; omega)
    exact h1.trans (((World.grownBy_alloc _ _ none).block k (by simp; omega) (by simp)).trans ((World.grownBy_alloc _ _ none).block k (by omega) (by simp)))
  have hsz4 : W.heap.size + 2 ≤ w4.heap.size := by have := hgrow.size; simp at this; omega
  have hp4 : At w4 b #[.int .i64 f, .int .i64 t, .int .i64 tl, .int .i64 pr, .int .i64 id, .int .i64 fr, .bool mo, .bool dn, .string op, .string da] := ⟨by omega, fun i u h => ⟨(World.cell?_of_block (a := ⟨b, i, none⟩) (hkeep b (by omega))).trans (hp.2 i u h).1, (World.frozen?_of_block (a := ⟨b, i, none⟩) (hkeep b (by omega))).trans (hp.2 i u h).2⟩⟩
  have hB4 : At w4 B #[v] := ⟨by omega, fun i u h => ⟨(World.cell?_of_block (a := ⟨B, i, none⟩) (hkeep B (by omega))).trans (hB.2 i u h).1, (World.frozen?_of_block (a := ⟨B, i, none⟩) (hkeep B (by omega))).trans (hB.2 i u h).2⟩⟩
  obtain ⟨g0, g1⟩ := hB4.2 0 v rfl
  have hgl := hB4.1
  clear hgrow hkeep hc9 hcB hq hi hz0 hz1 hz2
  have hnn : v' ≠ .slice none 0 0 := hnil
  obtain ⟨g, cap, rfl⟩ : ∃ g cap, v' = .slice (some ⟨g, 0, none⟩) (n + 1) cap := by
    rcases hown4.2 with ⟨h, _⟩ | ⟨g, cap, cur, h, _⟩
    · exact absurd h hnn
    · exact ⟨g, cap, h⟩
  clear hnil
  go_wp2
  refine bodyPost_end (v := .tuple #[]) (by simp [results, Tryz.results38, go_sem]) rfl ⟨.slice (some ⟨g, 0, none⟩) (n + 1) cap, rfl, hB1.setCell hB0 _, by simp [World.setCell]; omega, ?_, ?_, own_setCell hown4 B 0 _ hBR, hnn⟩
  · refine ⟨by simpa [World.setCell] using hp4.1, fun i u h => ⟨?_, ?_⟩⟩
    · rw [World.cell?_setCell_other]
      · exact (hp4.2 i u h).1
      · exact fun e => by have := congrArg Addr.block e; simp at this; omega
    · rw [World.frozen?_setCell]; exact (hp4.2 i u h).2
  · refine ⟨by simpa [World.setCell] using hB4.1, fun i u h => ⟨?_, ?_⟩⟩
    · have hi0 : i = 0 := by have := (Array.getElem?_eq_some_iff.1 h).1; simp at this; exact this
      subst hi0
      obtain rfl := Option.some.inj h
      rw [World.cell?_setCell_same _ _ _ g0]; rfl
    · rw [World.frozen?_setCell]
      have hi0 : i = 0 := by have := (Array.getElem?_eq_some_iff.1 h).1; simp at this; exact this
      subst hi0
      exact g1
end Go.Proofs.YthjbmloemmggaaaGreatDoor.Ip

namespace Go.Proofs.YthjbmloemmggaaaGreatDoor.Ip
open Go.RowKit
set_option maxRecDepth 100000

structure Pk where
  f : Int
  t : Int
  tl : Int
  pr : Int
  id : Int
  fr : Int
  mo : Bool
  dn : Bool
  op : ByteArray
  da : ByteArray
def Pk.L (p : Pk) : List Value := [.int .i64 p.f, .int .i64 p.t, .int .i64 p.tl, .int .i64 p.pr, .int .i64 p.id, .int .i64 p.fr, .bool p.mo, .bool p.dn, .string p.op, .string p.da]
theorem Pk.L_len (p : Pk) : p.L.length = 10 := rfl
def flatP (ps : List Pk) : List Value := ps.flatMap Pk.L
theorem flatP_snoc (ps : List Pk) (p : Pk) : flatP (ps ++ [p]) = flatP ps ++ p.L := by simp [flatP]
theorem flatP_len (ps : List Pk) : (flatP ps).length = ps.length * 10 := by
  induction ps with
  | nil => rfl
  | cons p ps ih =>
    have : flatP (p :: ps) = p.L ++ flatP ps := rfl
    rw [this, List.length_append, ih, Pk.L_len, List.length_cons]; omega
theorem flatP_at (ps : List Pk) (i j : Nat) (p : Pk) (hp : ps[i]? = some p) (hj : j < 10) : (flatP ps)[i * 10 + j]? = p.L[j]? := by
  induction ps generalizing i with
  | nil => simp at hp
  | cons q ps ih =>
    have e : flatP (q :: ps) = q.L ++ flatP ps := rfl
    rw [e]
    cases i with
    | zero =>
      simp only [List.getElem?_cons_zero, Option.some.injEq] at hp
      subst hp
      rw [Nat.zero_mul, Nat.zero_add, List.getElem?_append_left (by rw [Pk.L_len]; exact hj)]
    | succ i =>
      simp only [List.getElem?_cons_succ] at hp
      rw [List.getElem?_append_right (by rw [Pk.L_len]; omega), Pk.L_len, show (i + 1) * 10 + j - 10 = i * 10 + j by omega]
      exact ih i hp
def pieceN (p : Pk) (R k : Nat) : Pk := { p with fr := p.fr + ((k * R : Nat) : Int) / 8, mo := true, da := p.da.extract (k * R) ((k + 1) * R) }
def pieceZ (p : Pk) (R k : Nat) : Pk := { p with fr := p.fr + ((k * R : Nat) : Int) / 8, da := p.da.extract (k * R) p.da.size }
def firstP (p : Pk) (R k : Nat) : List Pk := (List.range k).map (pieceN p R)
def fullN (L R : Nat) : Nat := (L - 1) / R
def allP (p : Pk) (R : Nat) : List Pk := firstP p R (fullN p.da.size R) ++ [pieceZ p R (fullN p.da.size R)]
theorem firstP_succ (p : Pk) (R k : Nat) : firstP p R (k + 1) = firstP p R k ++ [pieceN p R k] := by simp [firstP, List.range_succ]
theorem firstP_len (p : Pk) (R k : Nat) : (firstP p R k).length = k := by simp [firstP]
theorem allP_len (p : Pk) (R : Nat) : (allP p R).length = fullN p.da.size R + 1 := by simp [allP, firstP_len]
theorem full_lt (L R k : Nat) (hR : 0 < R) (hL : 0 < L) : k < fullN L R ↔ (k + 1) * R < L := by
  unfold fullN
  rw [← Nat.succ_le_iff, Nat.le_div_iff_mul_le hR]
  show (k + 1) * R ≤ L - 1 ↔ _
  omega
theorem full_mul (L R : Nat) (hL : 0 < L) : fullN L R * R < L := by
  unfold fullN
  have := Nat.div_mul_le_self (L - 1) R
  omega
theorem own_mono {w : World} {base base' : Nat} {e : TypeId} {size n : Nat} {v : Value} {xs : List Value} (h : w.ownsRow base e size v n xs) (hb : base' ≤ base) : w.ownsRow base' e size v n xs := by
  refine ⟨h.1, ?_⟩
  rcases h.2 with h | ⟨g, cap, cur, hv, hg, rest⟩
  · exact .inl h
  · exact .inr ⟨g, cap, cur, hv, by omega, rest⟩
theorem own_later {w x : World} {base : Nat} {e : TypeId} {size n : Nat} {v : Value} {xs : List Value} (h : w.ownsRow base e size v n xs) (hb : Below w.heap.size w x) : x.ownsRow base e size v n xs := by
  refine ⟨h.1, ?_⟩
  rcases h.2 with h | ⟨g, cap, cur, hv, hg, hc, rest⟩
  · exact .inl h
  · refine .inr ⟨g, cap, cur, hv, hg, ?_, rest⟩
    rw [hb.block g (Array.getElem?_eq_some_iff.1 hc).1]
    exact hc

set_option maxRecDepth 100000 in
set_option maxHeartbeats 4000000 in
theorem cut_any (f t tl pr id fr : Int) (mo dn : Bool) (op da : ByteArray) (R : Nat) (w : World) (hR : 8 ≤ R) (hR2 : R ≤ 65535) (hd0 : 0 < da.size) (hd : (da.size : Int) ≤ 65535) (hf0 : 0 ≤ fr) (hf1 : fr ≤ 8191) :
    Calls Tryz.prog 18 #[.agg #[.int .i64 f, .int .i64 t, .int .i64 tl, .int .i64 pr, .int .i64 id, .int .i64 fr, .bool mo, .bool dn, .string op, .string da], .int .i64 (R : Int)] w fun e w' => ∃ v, e = .returned v ∧ Below w.heap.size w w' ∧ w'.ownsRow w.heap.size 23 10 v (allP ⟨f, t, tl, pr, id, fr, mo, dn, op, da⟩ R).length (flatP (allP ⟨f, t, tl, pr, id, fr, mo, dn, op, da⟩ R)) := by
  have hp := (At.box w #[.int .i64 f, .int .i64 t, .int .i64 tl, .int .i64 pr, .int .i64 id, .int .i64 fr, .bool mo, .bool dn, .string op, .string da] 23).later (bel1 _ (.cells #[.slice none 0 0] 26))
  have hB := At.box2 w (.cells #[.int .i64 f, .int .i64 t, .int .i64 tl, .int .i64 pr, .int .i64 id, .int .i64 fr, .bool mo, .bool dn, .string op, .string da] 23) #[.slice none 0 0] 26
  have hbel := bt (bel1 w (.cells #[.int .i64 f, .int .i64 t, .int .i64 tl, .int .i64 pr, .int .i64 id, .int .i64 fr, .bool mo, .bool dn, .string op, .string da] 23)) (bel1 _ (.cells #[.slice none 0 0] 26))
  have hN : ∀ k, k < fullN da.size R ↔ (k + 1) * R < da.size := fun k => full_lt da.size R k (by omega) hd0
  have hNm := full_mul da.size R hd0
  generalize hNe : fullN da.size R = N at *
  have HN : Hid (∀ k, k < N ↔ (k + 1) * R < da.size) := hN
  have HE : Hid (fullN da.size R = N) := hNe
  clear hN hNe
  have hNs : N ≤ 65535 := by
    apply Classical.byContradiction; intro h
    have h1 : N * 8 ≤ N * R := Nat.mul_le_mul_left N hR
    omega
  go_enter Tryz.func18, Tryz.ntmps18
  go_wp2_with fail
  have hst : Below w.heap.size w ((w.alloc (.cells #[.int .i64 f, .int .i64 t, .int .i64 tl, .int .i64 pr, .int .i64 id, .int .i64 fr, .bool mo, .bool dn, .string op, .string da] 23)).alloc (.cells #[.slice none 0 0] 26)) ∧ w.heap.size + 2 ≤ ((w.alloc (.cells #[.int .i64 f, .int .i64 t, .int .i64 tl, .int .i64 pr, .int .i64 id, .int .i64 fr, .bool mo, .bool dn, .string op, .string da] 23)).alloc (.cells #[.slice none 0 0] 26)).heap.size ∧ At ((w.alloc (.cells #[.int .i64 f, .int .i64 t, .int .i64 tl, .int .i64 pr, .int .i64 id, .int .i64 fr, .bool mo, .bool dn, .string op, .string da] 23)).alloc (.cells #[.slice none 0 0] 26)) w.heap.size #[.int .i64 f, .int .i64 t, .int .i64 tl, .int .i64 pr, .int .i64 id, .int .i64 fr, .bool mo, .bool dn, .string op, .string da] ∧ At ((w.alloc (.cells #[.int .i64 f, .int .i64 t, .int .i64 tl, .int .i64 pr, .int .i64 id, .int .i64 fr, .bool mo, .bool dn, .string op, .string da] 23)).alloc (.cells #[.slice none 0 0] 26)) (w.heap.size + 1) #[.slice none 0 0] := ⟨hbel, by simp, hp, hB⟩
  clear hbel hp hB
  go_loopw [7] (fun at_ W => ∃ (k : Nat) (v : Value), k ≤ N ∧ at_ = .int .i64 ((k * R : Nat) : Int) ∧ Below w.heap.size w W ∧ w.heap.size + 2 ≤ W.heap.size ∧ At W w.heap.size #[.int .i64 f, .int .i64 t, .int .i64 tl, .int .i64 pr, .int .i64 id, .int .i64 fr, .bool mo, .bool dn, .string op, .string da] ∧ At W (w.heap.size + 1) #[v] ∧ W.ownsRow (w.heap.size + 2) 23 10 v k (flatP (firstP ⟨f, t, tl, pr, id, fr, mo, dn, op, da⟩ R k))) (fun at_ _ => N * R - (intOf at_).toNat)
  case atStart =>
    exact ⟨0, .slice none 0 0, Nat.zero_le _, by simp, hst.1, hst.2.1, hst.2.2.1, hst.2.2.2, World.ownsRow_nil _ _ _ _⟩
  case round =>
    obtain ⟨k, v, hk, rfl, h1, h2, h3, h4, h5⟩ := hrel
    clear hst
    have hkm : k * R ≤ N * R := Nat.mul_le_mul_right R hk
    have c9 := (h3.2 9 _ rfl).1
    have c6 := (h3.2 6 _ rfl).1
    by_cases hlt : k < N
    · have hk1 := (HN.out k).1 hlt
      have e1 : (k + 1) * R = k * R + R := by rw [Nat.add_mul, Nat.one_mul]
      have hkN : (k + 1) * R ≤ N * R := Nat.mul_le_mul_right R hlt
      obtain ⟨A, hA⟩ : ∃ A, A = k * R := ⟨_, rfl⟩
      have HA : Hid (A = k * R) := hA
      rw [← hA]
      rw [e1] at hk1 hkN
      rw [← hA] at hk1 hkm hkN
      clear hA e1
      have g1 : (R : Int) < (da.size : Int) - (A : Int) := by omega
      have g2 : (A : Int) ≤ 65535 := by omega
      have g3 : (R : Int) ≤ 65535 := by omega
      go_wp2_with fail
      refine (gather_any f t tl pr id fr mo dn op da (A : Int) ((A : Int) + (R : Int)) true w wr w.heap.size w.heap.size (w.heap.size + 1) (w.heap.size + 2) k v _ (by omega) (by omega) (by omega) hd hf0 hf1 (by omega) h1 (Nat.le_refl _) (Nat.le_succ _) (by omega) (by omega) h2 h3 h4 h5).mono ?_
      rintro e w' ⟨v', rfl, n1, n2, n3, n4, n5, n6⟩
      go_wp2
      go_roundw
      case rel =>
        refine ⟨k + 1, v', hlt, ?_, n1, n2, n3, n4, ?_⟩
        · rw [Nat.add_mul, Nat.one_mul, ← HA.out]; go_num
        · rw [firstP_succ, flatP_snoc]
          have e3 : (pieceN ⟨f, t, tl, pr, id, fr, mo, dn, op, da⟩ R k).L = [.int .i64 f, .int .i64 t, .int .i64 tl, .int .i64 pr, .int .i64 id, .int .i64 (fr + (A : Int) / 8), .bool true, .bool dn, .string op, .string (da.extract (A : Int).toNat ((A : Int) + (R : Int)).toNat)] := by
            unfold pieceN Pk.L
            rw [Nat.add_mul, Nat.one_mul, ← HA.out]
            rfl
          rw [e3]
          exact n5
      case measure => simp [intOf]; omega
    · have hkN : k = N := by omega
      subst hkN
      have hnl : ¬ (k + 1) * R < da.size := fun h => hlt ((HN.out k).2 h)
      have e1 : (k + 1) * R = k * R + R := by rw [Nat.add_mul, Nat.one_mul]
      rw [e1] at hnl
      obtain ⟨A, hA⟩ : ∃ A, A = k * R := ⟨_, rfl⟩
      have HA : Hid (A = k * R) := hA
      rw [← hA]
      rw [← hA] at hnl hNm
      clear hA e1 hkm
      have g1 : ¬ (R : Int) < (da.size : Int) - (A : Int) := by omega
      have g2 : (A : Int) ≤ 65535 := by omega
      have g3 : (R : Int) ≤ 65535 := by omega
      go_wp2_with fail
      refine (gather_any f t tl pr id fr mo dn op da (A : Int) (da.size : Int) mo w wr w.heap.size w.heap.size (w.heap.size + 1) (w.heap.size + 2) k v _ (by omega) (by omega) (by omega) hd hf0 hf1 (by omega) h1 (Nat.le_refl _) (Nat.le_succ _) (by omega) (by omega) h2 h3 h4 h5).mono ?_
      rintro e w' ⟨v', rfl, n1, n2, n3, n4, n5, n6⟩
      have cB := (n4.2 0 v' rfl).1
      obtain ⟨g, cap, rfl⟩ : ∃ g cap, v' = .slice (some ⟨g, 0, none⟩) (k + 1) cap := by
        rcases n5.2 with ⟨h, _⟩ | ⟨g, cap, cur, h, _⟩
        · exact absurd h n6
        · exact ⟨g, cap, h⟩
      go_wp2
      go_ret
      refine ⟨_, rfl, n1, ?_⟩
      have e4 : (allP ⟨f, t, tl, pr, id, fr, mo, dn, op, da⟩ R).length = k + 1 := by rw [allP_len]; show fullN da.size R + 1 = _; rw [HE.out]
      have e5 : flatP (allP ⟨f, t, tl, pr, id, fr, mo, dn, op, da⟩ R) = flatP (firstP ⟨f, t, tl, pr, id, fr, mo, dn, op, da⟩ R k) ++ [.int .i64 f, .int .i64 t, .int .i64 tl, .int .i64 pr, .int .i64 id, .int .i64 (fr + (A : Int) / 8), .bool mo, .bool dn, .string op, .string (da.extract (A : Int).toNat (da.size : Int).toNat)] := by
        unfold allP
        rw [flatP_snoc]
        show flatP (firstP ⟨f, t, tl, pr, id, fr, mo, dn, op, da⟩ R (fullN da.size R)) ++ (pieceZ ⟨f, t, tl, pr, id, fr, mo, dn, op, da⟩ R (fullN da.size R)).L = _
        rw [HE.out]
        congr 1
        unfold pieceZ Pk.L
        rw [← HA.out]
        rfl
      rw [e4, e5]
      exact own_mono n5 (by omega)
end Go.Proofs.YthjbmloemmggaaaGreatDoor.Ip

namespace Go.Proofs.YthjbmloemmggaaaGreatDoor.Ip
open Go.RowKit
set_option maxRecDepth 100000

def Cuts (f t tl pr id fr : Int) (mo dn : Bool) (op da : ByteArray) (most c : Int) (ps : List Pk) : Prop := (c = 50 ∧ ps = [] ∧ mayP f t tl pr id fr mo op.size da.size = false ∨ mayP f t tl pr id fr mo op.size da.size = true ∧ (c = 1 ∧ ps = [] ∧ most < 28 + (op.size : Int) ∨ c = 1 ∧ ps = [] ∧ 28 + (op.size : Int) ≤ most ∧ 65535 < most ∨ (28 + (op.size : Int) ≤ most ∧ most ≤ 65535) ∧ (c = 0 ∧ ps = [⟨f, t, tl, pr, id, fr, mo, dn, op, da⟩] ∧ 20 + (op.size : Int) + (da.size : Int) ≤ most ∨ most < 20 + (op.size : Int) + (da.size : Int) ∧ (c = 2 ∧ ps = [] ∧ dn = true ∨ c = 0 ∧ ps = allP ⟨f, t, tl, pr, id, fr, mo, dn, op, da⟩ ((most - (20 + (op.size : Int))) / 8 * 8).toNat ∧ dn = false))))

set_option maxRecDepth 100000 in
set_option maxHeartbeats 4000000 in
theorem pieces_any (f t tl pr id fr : Int) (mo dn : Bool) (op da : ByteArray) (most c : Int) (ps : List Pk) (w : World) (ho : op.size ≤ 1125899906842624) (hd : da.size ≤ 1125899906842624) (h : Cuts f t tl pr id fr mo dn op da most c ps) :
    Calls Tryz.prog 5 #[.agg #[.int .i64 f, .int .i64 t, .int .i64 tl, .int .i64 pr, .int .i64 id, .int .i64 fr, .bool mo, .bool dn, .string op, .string da], .int .i64 most] w fun e w' => ∃ v, e = .returned (.tuple #[v, .int .i64 c]) ∧ Below w.heap.size w w' ∧ w'.ownsRow w.heap.size 23 10 v ps.length (flatP ps) := by
  have hA := At.box w #[.int .i64 f, .int .i64 t, .int .i64 tl, .int .i64 pr, .int .i64 id, .int .i64 fr, .bool mo, .bool dn, .string op, .string da] 23
  have hl := bel1 w (.cells #[.int .i64 f, .int .i64 t, .int .i64 tl, .int .i64 pr, .int .i64 id, .int .i64 fr, .bool mo, .bool dn, .string op, .string da] 23)
  have ho' : (op.size : Int) ≤ 1125899906842624 := by omega
  have hd' : (da.size : Int) ≤ 1125899906842624 := by omega
  unfold Cuts at h
  rcases h with ⟨rfl, rfl, hm⟩ | ⟨hm, h⟩
  · go_enter Tryz.func5, Tryz.ntmps5
    go_wp2_with fail
    refine (mp_f hm _ ho hd).mono ?_
    rintro e w1 ⟨rfl, hb⟩
    go_wp2
    go_ret2
    exact ⟨_, rfl, bt hl hb, World.ownsRow_nil _ _ _ _⟩
  · have hq := mayP_q hm
    obtain ⟨-, -, -, -, -, ⟨q0, q1⟩, q2, q3, -, q4, -⟩ := hq
    have q3' : (op.size : Int) ≤ 40 := by omega
    have q4' : (da.size : Int) ≤ 65535 := by omega
    have e8 : 20 + (op.size : Int) + 8 = 28 + (op.size : Int) := by omega
    rcases h with ⟨rfl, rfl, h1⟩ | ⟨rfl, rfl, h1, h2⟩ | ⟨⟨h1, h2⟩, ⟨rfl, rfl, h3⟩ | ⟨h3, ⟨rfl, rfl, rfl⟩ | ⟨rfl, rfl, rfl⟩⟩⟩
    · go_enter Tryz.func5, Tryz.ntmps5
      go_wp2_with fail
      refine (mp_t hm _ ho hd).mono ?_
      rintro e w1 ⟨rfl, hb⟩
      replace hl := bt hl hb
      replace hA := hA.later hb
      clear hb
      obtain ⟨⟨c0, c1, c2, c3, c4, c5, c6, c7, c8, c9⟩, -, -⟩ := hA.ten
      go_wp2_with fail
      refine (hl_any _ _ _ _ _ _ _ _ _ _ _ ho).mono ?_
      rintro e w2 ⟨rfl, hb⟩
      replace hl := bt hl hb
      replace hA := hA.later hb
      clear hb c0 c1 c2 c3 c4 c5 c6 c7 c8 c9
      obtain ⟨⟨c0, c1, c2, c3, c4, c5, c6, c7, c8, c9⟩, -, -⟩ := hA.ten
      go_wp2
      go_ret2
      exact ⟨_, rfl, hl, World.ownsRow_nil _ _ _ _⟩
    · go_enter Tryz.func5, Tryz.ntmps5
      go_wp2_with fail
      refine (mp_t hm _ ho hd).mono ?_
      rintro e w1 ⟨rfl, hb⟩
      replace hl := bt hl hb
      replace hA := hA.later hb
      clear hb
      obtain ⟨⟨c0, c1, c2, c3, c4, c5, c6, c7, c8, c9⟩, -, -⟩ := hA.ten
      go_wp2_with fail
      refine (hl_any _ _ _ _ _ _ _ _ _ _ _ ho).mono ?_
      rintro e w2 ⟨rfl, hb⟩
      replace hl := bt hl hb
      replace hA := hA.later hb
      clear hb c0 c1 c2 c3 c4 c5 c6 c7 c8 c9
      obtain ⟨⟨c0, c1, c2, c3, c4, c5, c6, c7, c8, c9⟩, -, -⟩ := hA.ten
      go_wp2
      go_ret2
      exact ⟨_, rfl, hl, World.ownsRow_nil _ _ _ _⟩
    · go_enter Tryz.func5, Tryz.ntmps5
      go_wp2_with fail
      refine (mp_t hm _ ho hd).mono ?_
      rintro e w1 ⟨rfl, hb⟩
      replace hl := bt hl hb
      replace hA := hA.later hb
      clear hb
      obtain ⟨⟨c0, c1, c2, c3, c4, c5, c6, c7, c8, c9⟩, -, -⟩ := hA.ten
      go_wp2_with fail
      refine (hl_any _ _ _ _ _ _ _ _ _ _ _ ho).mono ?_
      rintro e w2 ⟨rfl, hb⟩
      replace hl := bt hl hb
      replace hA := hA.later hb
      clear hb c0 c1 c2 c3 c4 c5 c6 c7 c8 c9
      obtain ⟨⟨c0, c1, c2, c3, c4, c5, c6, c7, c8, c9⟩, -, -⟩ := hA.ten
      go_wp2
      go_ret2
      exact ⟨_, rfl, bt hl (bel1 _ _), World.ownsRow_lit w2 #[.int .i64 f, .int .i64 t, .int .i64 tl, .int .i64 pr, .int .i64 id, .int .i64 fr, .bool mo, .bool dn, .string op, .string da] 1 hl.size (by decide) rfl⟩
    · go_enter Tryz.func5, Tryz.ntmps5
      go_wp2_with fail
      refine (mp_t hm _ ho hd).mono ?_
      rintro e w1 ⟨rfl, hb⟩
      replace hl := bt hl hb
      replace hA := hA.later hb
      clear hb
      obtain ⟨⟨c0, c1, c2, c3, c4, c5, c6, c7, c8, c9⟩, -, -⟩ := hA.ten
      go_wp2_with fail
      refine (hl_any _ _ _ _ _ _ _ _ _ _ _ ho).mono ?_
      rintro e w2 ⟨rfl, hb⟩
      replace hl := bt hl hb
      replace hA := hA.later hb
      clear hb c0 c1 c2 c3 c4 c5 c6 c7 c8 c9
      obtain ⟨⟨c0, c1, c2, c3, c4, c5, c6, c7, c8, c9⟩, -, -⟩ := hA.ten
      go_wp2
      go_ret2
      exact ⟨_, rfl, hl, World.ownsRow_nil _ _ _ _⟩
    · obtain ⟨R, hR⟩ : ∃ R : Nat, (R : Int) = (most - (20 + (op.size : Int))) / 8 * 8 := ⟨((most - (20 + (op.size : Int))) / 8 * 8).toNat, by omega⟩
      have hRt : ((most - (20 + (op.size : Int))) / 8 * 8).toNat = R := by omega
      rw [hRt]
      have hRs : (most - (20 + (op.size : Int))) / 8 * 8 = (R : Int) := hR.symm
      have k1 : 0 ≤ most - (20 + (op.size : Int)) := by omega
      have k2 : most - (20 + (op.size : Int)) ≤ 65535 := by omega
      have k3 : 8 ≤ R := by omega
      have k4 : R ≤ 65535 := by omega
      have k5 : 0 < da.size := by omega
      clear hR hRt
      go_enter Tryz.func5, Tryz.ntmps5
      go_wp2_with fail
      refine (mp_t hm _ ho hd).mono ?_
      rintro e w1 ⟨rfl, hb⟩
      replace hl := bt hl hb
      replace hA := hA.later hb
      clear hb
      obtain ⟨⟨c0, c1, c2, c3, c4, c5, c6, c7, c8, c9⟩, -, -⟩ := hA.ten
      go_wp2_with fail
      refine (hl_any _ _ _ _ _ _ _ _ _ _ _ ho).mono ?_
      rintro e w2 ⟨rfl, hb⟩
      replace hl := bt hl hb
      replace hA := hA.later hb
      clear hb c0 c1 c2 c3 c4 c5 c6 c7 c8 c9
      obtain ⟨⟨c0, c1, c2, c3, c4, c5, c6, c7, c8, c9⟩, -, -⟩ := hA.ten
      go_wp2_with fail
      refine (cut_any f t tl pr id fr mo false op da R _ k3 k4 k5 q4' q0 q1).mono ?_
      rintro e w3 ⟨v, rfl, hb, hown⟩
      have hl' := hl
      replace hl := bt hl hb
      go_wp2
      go_ret2
      exact ⟨_, rfl, hl, own_mono hown hl'.size⟩

end Go.Proofs.YthjbmloemmggaaaGreatDoor.Ip
