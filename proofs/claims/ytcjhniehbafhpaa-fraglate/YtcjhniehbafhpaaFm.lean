/- The box as plain data; New, Len, moveTo, begin. -/
import Derived.Test.YtcjhniehbafhpaaFl
namespace Go.Proofs.Ytcjhniehbafhpaa
open Go.RowKit Go.Maps
set_option maxRecDepth 100000
set_option linter.unusedVariables false
set_option linter.unusedSimpArgs false

structure Pile where
  m : Mk
  at_ : Int
  tu : Int
  v : Value
  ps : List Pk
def Pile.en (x : Pile) : En := (x.m, .agg #[.int .i64 x.at_, .int .i64 x.tu, x.v])
/-- What is kept of a packet: some pieces, in the order of their places, each of which may be. -/
structure Pile.Ok (w : World) (R : Nat) (x : Pile) : Prop where
  row : RW w R x.v x.ps
  fine : ∀ q ∈ x.ps, q.Fine
  rise : x.ps.Pairwise (fun a b => a.fr ≤ b.fr)
  len : x.ps.length ≤ 64
def apart (x y : Pile) : Prop := ∀ k, x.v.ownBlock = some k → y.v.ownBlock ≠ some k
/-- A box with its map, and what is put together there. -/
structure BX (w : World) (R B M : Nat) (ro pa la tu : Int) (l : List Pile) : Prop where
  box : At w B #[.int .i64 ro, .int .i64 pa, .int .i64 la, .int .i64 tu, .map (some M)]
  map : GM w M (l.map Pile.en)
  ok : ∀ x ∈ l, x.Ok w R
  far : l.Pairwise apart
  bR : B < R
  mR : M < R
  rw' : R ≤ w.heap.size
  ne : B ≠ M
/-- What a call may turn: the box, its map, and the rows. -/
def FL (B M : Nat) (l : List Pile) (k : Nat) : Prop := k = B ∨ k = M ∨ ∃ x ∈ l, x.v.ownBlock = some k
theorem apart_symm {x y : Pile} (h : apart x y) : apart y x := fun k hy hx => h k hx hy
theorem Pile.Ok.turn {S : Nat → Prop} {w w' : World} {R : Nat} {x : Pile} (h : x.Ok w R) (ht : Turn S w w') (hS : ∀ k, x.v.ownBlock = some k → ¬ S k) : x.Ok w' R := ⟨h.row.turn ht hS, h.fine, h.rise, h.len⟩
theorem BX.later {w w' : World} {R B M : Nat} {ro pa la tu : Int} {l : List Pile} (h : BX w R B M ro pa la tu l) (hb : Below w.heap.size w w') : BX w' R B M ro pa la tu l :=
  ⟨h.box.later hb, h.map.later hb, fun x hx => (h.ok x hx).turn (S := fun _ => False) (Turn.of_below hb) (fun _ _ h => h), h.far, h.bR, h.mR, Nat.le_trans h.rw' hb.size, h.ne⟩
/-- Nothing of the box has turned. -/
theorem BX.turn {S : Nat → Prop} {w w' : World} {R B M : Nat} {ro pa la tu : Int} {l : List Pile} (h : BX w R B M ro pa la tu l) (ht : Turn S w w') (hB : ¬ S B) (hM : ¬ S M) (hS : ∀ x ∈ l, ∀ k, x.v.ownBlock = some k → ¬ S k) : BX w' R B M ro pa la tu l :=
  ⟨h.box.turn ht hB, h.map.turn ht hM, fun x hx => (h.ok x hx).turn ht (hS x hx), h.far, h.bR, h.mR, Nat.le_trans h.rw' ht.size, h.ne⟩
def mk (p : Pk) : Mk := ⟨p.f, p.t, p.pr, p.id⟩
theorem new_t (ro pa : Int) (w : World) (h1 : 1 ≤ ro) (h2 : ro ≤ 64) (h3 : 1 ≤ pa) (h4 : pa ≤ 1048576) :
    Calls Try.prog 7 #[.int .i64 ro, .int .i64 pa] w fun e w' => e = .returned (.tuple #[.pointer (some ⟨w.heap.size + 1, 0, none⟩), .int .i64 0]) ∧ At w' (w.heap.size + 1) #[.int .i64 ro, .int .i64 pa, .int .i64 0, .int .i64 0, .map (some w.heap.size)] ∧ GM w' w.heap.size [] ∧ Below w.heap.size w w' := by
  have hmm := @run_makeMap Try.prog
  have n1 : ¬ ro < 1 := by omega
  have n2 : ¬ 64 < ro := by omega
  have n3 : ¬ pa < 1 := by omega
  have n4 : ¬ 1048576 < pa := by omega
  have hA := At.box2 w (.map #[] 0) #[.int .i64 ro, .int .i64 pa, .int .i64 0, .int .i64 0, .map (some w.heap.size)] 56
  have hG := (GM.made w).later (bel1 _ (.cells #[.int .i64 ro, .int .i64 pa, .int .i64 0, .int .i64 0, .map (some w.heap.size)] 56))
  have hl := bt (bel1 w (.map #[] 0)) (bel1 _ (.cells #[.int .i64 ro, .int .i64 pa, .int .i64 0, .int .i64 0, .map (some w.heap.size)] 56))
  go_enter Try.func7, Try.ntmps7
  go_wp2
  go_ret2
  exact ⟨rfl, hA, hG, hl⟩
theorem len_any {w : World} {R B M : Nat} {ro pa la tu : Int} {l : List Pile} (h : BX w R B M ro pa la tu l) : Calls Try.prog 15 #[.pointer (some ⟨B, 0, none⟩)] w fun e w' => e = .returned (.int .i64 (l.length : Int)) ∧ w' = w := by
  have c4 := (h.box.2 4 _ rfl).1
  have hln := h.map.len 3
  rw [List.length_map] at hln
  go_enter Try.func15, Try.ntmps15
  go_wp2
  go_ret
  exact ⟨rfl, rfl⟩
theorem move_any {w : World} {R B M : Nat} {ro pa la tu : Int} {l : List Pile} (h : BX w R B M ro pa la tu l) (now : Int) (h1 : la ≤ now) (h2 : now ≤ 1099511627776) :
    Calls Try.prog 18 #[.pointer (some ⟨B, 0, none⟩), .int .i64 now] w fun e w' => e = .returned (.bool true) ∧ BX w' R B M ro pa now tu l ∧ Turn (fun k => k = B) w w' := by
  obtain ⟨c2, f2⟩ := h.box.2 2 _ rfl
  have n1 : ¬ now < la := by omega
  have n2 : ¬ 1099511627776 < now := by omega
  have ht := turn_set w B 2 (.int .i64 now)
  have hA : At (w.setCell ⟨B, 2, none⟩ (.int .i64 now)) B #[.int .i64 ro, .int .i64 pa, .int .i64 now, .int .i64 tu, .map (some M)] := h.box.set 2 (.int .i64 now)
  have HF : Hid (BX (w.setCell ⟨B, 2, none⟩ (.int .i64 now)) R B M ro pa now tu l ∧ Turn (fun k => k = B) w (w.setCell ⟨B, 2, none⟩ (.int .i64 now))) :=
    ⟨⟨hA, h.map.turn ht (fun e => h.ne e.symm), fun x hx => (h.ok x hx).turn ht (fun k hk e => by have := (h.ok x hx).row.ge k hk; have := h.bR; omega), h.far, h.bR, h.mR, Nat.le_trans h.rw' ht.size, h.ne⟩, ht⟩
  clear h ht hA
  go_enter Try.func18, Try.ntmps18
  go_wp2
  go_ret
  exact ⟨rfl, HF.out⟩
end Go.Proofs.Ytcjhniehbafhpaa
