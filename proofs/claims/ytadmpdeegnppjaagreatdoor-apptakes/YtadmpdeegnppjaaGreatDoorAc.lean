/- Rows of bytes; a builder; what the library keeps in variables. -/
import Derived.Test.YtadmpdeegnppjaaGreatDoorAb
import Derived.Test.YtadmpdeegnppjaaGreatDoorSh
import Derived.Lib.UnsafeStr
import Derived.Lib.Builder
import Derived.Lib.AppendStr
import Derived.Lib.AppendIntMem
import Derived.Lib.LaidTab
import Derived.Shelf.Strings.Builder1
import Derived.Maps.AppendAt
namespace Go.Proofs.YtadmpdeegnppjaaGreatDoor
open Go.RowKit Go.Maps Go.Shelf Go.Lib
set_option maxRecDepth 100000
set_option linter.unusedVariables false
set_option linter.unusedSimpArgs false

theorem row_turn {S : Nat → Prop} {w w' : World} {base : Nat} {e : TypeId} {size : Nat} {v : Value} {n : Nat} {xs : List Value} (h : w.ownsRow base e size v n xs) (ht : Turn S w w') (hs : ∀ k, v.ownBlock = some k → ¬ S k) : w'.ownsRow base e size v n xs := by
  refine ⟨h.1, ?_⟩
  rcases h.2 with h2 | ⟨g, cap, cur, hv, hg, hb, h3⟩
  · exact Or.inl h2
  · exact Or.inr ⟨g, cap, cur, hv, hg, (ht.block g (Array.getElem?_eq_some_iff.1 hb).1 (hs g (by rw [hv]; rfl))).trans hb, h3⟩
theorem row_later {w w' : World} {base : Nat} {e : TypeId} {size : Nat} {v : Value} {n : Nat} {xs : List Value} (h : w.ownsRow base e size v n xs) (hb : Below w.heap.size w w') : w'.ownsRow base e size v n xs :=
  row_turn (S := fun _ => False) h (Turn.of_below hb) (fun _ _ h => h)
/-! ### Rows of bytes -/
def byV (b : UInt8) : Value := .int .u8 (b.toNat : Int)
def strB (l : List UInt8) : ByteArray := ⟨l.toArray⟩
theorem strB_size (l : List UInt8) : (strB l).size = l.length := by simp [strB, ByteArray.size]
theorem strCells_strB (l : List UInt8) : strCells (strB l) = l.map byV := by simp [strCells, strB, byV]
theorem strB_list (s : ByteArray) : strB s.data.toList = s := by simp [strB]
def BO (w : World) (base : Nat) (v : Value) (bs : List UInt8) : Prop := w.ownsRow base 5 1 v bs.length (bs.map byV)
theorem BO.nil (w : World) (base : Nat) : BO w base (.slice none 0 0) [] := World.ownsRow_nil _ _ _ _
theorem info5 : (Tryz.prog.info? 5).map (fun i => (i.zero, i.size, i.bytes)) = some (some (.int .u8 0), 1, 1) := by kernel_rfl
theorem BO.shape {w : World} {base : Nat} {v : Value} {bs : List UInt8} (h : BO w base v bs) : ∃ a c, v = .slice a bs.length c ∧ (a = none → bs = []) ∧ bs.length ≤ c ∧ (a = none → c = 0) := by
  rcases h.2 with ⟨rfl, h0⟩ | ⟨g, cap, cur, rfl, hg, hb, h1, h2⟩
  · rw [h0]; exact ⟨none, 0, rfl, fun _ => List.length_eq_zero_iff.1 h0, Nat.le_refl _, fun _ => rfl⟩
  · exact ⟨some ⟨g, 0, none⟩, cap, rfl, (fun e => by cases e), h1, (fun e => by cases e)⟩
theorem BO.cell {w : World} {base g : Nat} {n c : Nat} {bs : List UInt8} (h : BO w base (.slice (some ⟨g, 0, none⟩) n c) bs) {j : Nat} {b : UInt8} (hj : bs[j]? = some b) : w.cell? ⟨g, j, none⟩ = some (byV b) := by
  have := h.cells (g := g) rfl j (byV b) (by rw [List.getElem?_map, hj]; rfl)
  rw [Addr.add_mid] at this
  simpa using this
/-- append of a string's bytes, and where they lie. -/
theorem apps {w : World} {v : Value} {bs : List UInt8} (h : BO w 0 v bs) (s : ByteArray) (hl : bs.length + s.size ≤ 1000000000000) (ty : TypeId) :
    ∃ v' w', (Builtin.append_ #[41, 9] ty #[v, .string s]).run Tryz.prog w = .ok v' w' ∧ BO w' 0 v' (bs ++ s.data.toList) ∧ w.grownBy w' v.ownBlock ∧ (v'.ownBlock = v.ownBlock ∨ v'.ownBlock = some w.heap.size) := by
  obtain ⟨i0, hi, hz0, hz1, hz2⟩ := info_parts info5
  obtain ⟨v', w', e1, e2, e3, e4⟩ := run_append_own_string (P := Tryz.prog) w 0 41 9 ty 5 i0 Tryz.underlying41 Tryz.underlying9 hi hz0 hz1 hz2 v bs.length (bs.map byV) h s (by unfold maxLen; omega) (by omega) (Nat.zero_le _)
  refine ⟨v', w', e1, ?_, e3, ?_⟩
  · have hs : (bs ++ s.data.toList).length = bs.length + s.size := by rw [List.length_append, Array.length_toList]; rfl
    unfold BO
    rw [hs, List.map_append]
    exact e2
  · rcases h.2 with ⟨rfl, h0⟩ | ⟨g, cap, cur, rfl, hg, hb, h1, h2, h3, h4⟩
    · by_cases hm : s.size = 0
      · rw [e4.2 ⟨rfl, hm⟩]; exact Or.inl rfl
      · have hr := run_append_nil_string (P := Tryz.prog) w 41 9 ty 5 i0 (.int .u8 0) Tryz.underlying41 Tryz.underlying9 hi hz0 s (by omega) (by omega) (by rw [hz2]; omega)
        rw [e1] at hr
        injection hr with hr1 hr2
        rw [hr1]
        exact Or.inr rfl
    · by_cases hroom : bs.length + s.size ≤ cap
      · have hr := run_append_room_string (P := Tryz.prog) w 41 9 ty 5 i0 Tryz.underlying41 Tryz.underlying9 hi hz1 g bs.length cap cur hb s hroom (by omega)
        rw [e1] at hr
        injection hr with hr1 hr2
        rw [hr1]
        exact Or.inl rfl
      · have holds : ∀ j u, (bs.map byV)[j]? = some u → w.cell? ((⟨g, 0, none⟩ : Addr).add j) = some u := h.cells (g := g) rfl
        have hr := run_append_grow_string (P := Tryz.prog) w 41 9 ty 5 i0 (.int .u8 0) Tryz.underlying41 Tryz.underlying9 hi hz0 ⟨g, 0, none⟩ bs.length cap (bs.map byV) (by rw [hz1, List.length_map, Nat.mul_one]) holds s (by omega) (by omega) (by rw [hz2]; exact growslice_fits (by omega) (by omega))
        rw [e1] at hr
        injection hr with hr1 hr2
        rw [hr1]
        exact Or.inr rfl
/-- append of one byte that was boxed, and where they lie. -/
theorem app1 {w : World} {v : Value} {bs : List UInt8} (h : BO w 0 v bs) (b : UInt8) (hl : bs.length ≤ 1000000000000) (ty : TypeId) :
    ∃ v' w', (Builtin.append_ #[41, 41] ty #[v, .slice (some ⟨w.heap.size, 0, none⟩) 1 1]).run Tryz.prog (w.alloc (.cells #[byV b] 5)) = .ok v' w' ∧ BO w' 0 v' (bs ++ [b]) ∧ Turn (fun k => v.ownBlock = some k) w w' ∧ (v'.ownBlock = v.ownBlock ∨ v'.ownBlock = some (w.heap.size + 1)) := by
  obtain ⟨i0, hi, hz0, hz1, hz2⟩ := info_parts info5
  obtain ⟨v', w', e1, e2, e3, -, e5⟩ := run_append_own_at (P := Tryz.prog) (w.alloc (.cells #[byV b] 5)) 0 41 ty 5 i0 _ 1 1 Tryz.underlying41 hi hz0 hz1 hz2 rfl (by decide) v bs.length (bs.map byV) (row_later h (bel1 w _)) ⟨w.heap.size, 0, none⟩ 1 1 [byV b] rfl (fun j u hu => by
    have hj : j = 0 := by have := (List.getElem?_eq_some_iff.1 hu).1; simpa using this
    subst hj
    obtain rfl : u = byV b := by simpa using hu.symm
    rw [Addr.add_mid]
    exact ((At.box w #[byV b] 5).2 0 _ rfl).1) (fun u hu => by simp at hu; subst hu; rfl) (by unfold maxLen; omega) (by omega) (Nat.zero_le _)
  refine ⟨v', w', e1, ?_, (Turn.of_below (bel1 w _)).and e3 (fun j hj => Or.inl hj), ?_⟩
  · unfold BO
    rw [List.length_append, List.map_append]
    exact e2
  · have : (w.alloc (.cells #[byV b] 5)).heap.size = w.heap.size + 1 := by simp
    rw [this] at e5
    exact e5
theorem BO.lt {w : World} {base : Nat} {v : Value} {bs : List UInt8} (h : BO w base v bs) {k : Nat} (hk : v.ownBlock = some k) : k < w.heap.size := by
  rcases h.2 with ⟨rfl, -⟩ | ⟨g, cap, cur, rfl, hg, hb, -⟩
  · cases hk
  · cases hk; exact (Array.getElem?_eq_some_iff.1 hb).1
/-- A set with the blocks of one more value. -/

theorem BO.turn {S : Nat → Prop} {w w' : World} {base : Nat} {v : Value} {bs : By} (h : BO w base v bs) (ht : Turn S w w') (hs : ∀ k, v.ownBlock = some k → ¬ S k) : BO w' base v bs := row_turn h ht hs
theorem BO.later {w w' : World} {base : Nat} {v : Value} {bs : By} (h : BO w base v bs) (hb : Below w.heap.size w w') : BO w' base v bs := row_later h hb
/-- 'string(b)' of a row of bytes. -/
theorem BO.text {w : World} {v : Value} {bs : By} (h : BO w 0 v bs) : (convert 41 9 v).run Tryz.prog w = .ok (.string (B bs)) w := by
  obtain ⟨a, c, rfl, h0, hc, hcz⟩ := h.shape
  cases a with
  | none =>
    obtain rfl := h0 rfl
    have := run_convert_bytes_string (P := Tryz.prog) w 41 9 5 none 0 c Tryz.underlying41 Tryz.underlying5 Tryz.underlying9
    rw [List.length_nil, this]
    rfl
  | some A =>
    obtain ⟨g, cap, cur, hv, hg, hb, h1, h2, h3, h4⟩ : ∃ g cap cur, (Value.slice (some A) bs.length c) = .slice (some ⟨g, 0, none⟩) bs.length cap ∧ 0 ≤ g ∧ w.heap[g]? = some (.cells cur 5 (0, 0)) ∧ bs.length ≤ cap ∧ cap ≤ maxLen ∧ cur.size = cap * 1 ∧ cur.toList.take (bs.length * 1) = bs.map byV := by
      rcases h.2 with ⟨e, -⟩ | h'
      · cases e
      · exact h'
    cases hv
    exact run_convert_bytes_back (P := Tryz.prog) w 41 9 5 ⟨g, 0, none⟩ c bs Tryz.underlying41 Tryz.underlying5 Tryz.underlying9 (fun j hj => by
      rw [Addr.add_mid]
      have := BO.cell h (j := j) (b := bs[j]) (List.getElem?_eq_getElem hj)
      simpa [byV] using this)
/-- 's[:0]' of a row of bytes. -/
theorem BO.cut0 {w : World} {v : Value} {bs : By} (h : BO w 0 v bs) : ∃ v', (∀ W, (Instr.slice 41 v none (some (.int .i64 0)) none).run Tryz.prog W = .ok v' W) ∧ BO w 0 v' [] ∧ v'.ownBlock = v.ownBlock := by
  rcases h.2 with ⟨rfl, h0⟩ | ⟨g, cap, cur, rfl, hg, hb, h1, h2, h3, h4⟩
  · refine ⟨.slice none 0 0, fun W => ?_, BO.nil _ _, rfl⟩
    simp [Instr.slice, Instr.sliceBounds, Instr.sliceBound, asIntOf, run_underlying Tryz.underlying41, Result.andThen]
  · refine ⟨.slice (some ⟨g, 0, none⟩) 0 cap, fun W => ?_, ⟨rfl, Or.inr ⟨g, cap, cur, rfl, hg, hb, Nat.zero_le _, h2, h3, by simp⟩⟩, rfl⟩
    simp [Instr.slice, Instr.sliceBounds, Instr.sliceBound, asIntOf, run_underlying Tryz.underlying41, Tryz.sizeOf5, Result.andThen, Addr.add_mid]
abbrev PB (b : Nat) : Value := .pointer (some ⟨b, 0, none⟩)
/-- A builder that the call made: its buffer's value, what it holds. -/
structure BU (w : World) (c : Nat) (v : Value) (bs : By) : Prop where
  blk : ∃ p, (p = .pointer none ∨ p = PB c) ∧ w.heap[c]? = some (.cells #[p, v] 50 (0, 0))
  bo : BO w 0 v bs
  ne : v.ownBlock ≠ some c
  nil : bs = [] → v = .slice none 0 0
section
variable {w w' : World} {c : Nat} {v : Value} {bs : By} {S : Nat → Prop}
theorem BU.turn (h : BU w c v bs) (ht : Turn S w w') (hc : ¬ S c) (hs : ∀ k, v.ownBlock = some k → ¬ S k) : BU w' c v bs := by
  obtain ⟨p, hp, hb⟩ := h.blk
  exact ⟨⟨p, hp, (ht.block c (Array.getElem?_eq_some_iff.1 hb).1 hc).trans hb⟩, h.bo.turn ht hs, h.ne, h.nil⟩
theorem BU.later (h : BU w c v bs) (hb : Below w.heap.size w w') : BU w' c v bs := h.turn (S := fun _ => False) (Turn.of_below hb) (fun h => h) (fun _ _ h => h)
theorem BU.lt (h : BU w c v bs) : c < w.heap.size := by
  obtain ⟨p, hp, hb⟩ := h.blk
  exact (Array.getElem?_eq_some_iff.1 hb).1
theorem BU.made (w : World) : BU (w.alloc (.cells #[.pointer none, .slice none 0 0] 50)) w.heap.size (.slice none 0 0) [] :=
  ⟨⟨.pointer none, Or.inl rfl, (MapKept.heap_alloc w _).1⟩, BO.nil _ _, (by simp [Value.ownBlock]), fun _ => rfl⟩
theorem BU.cells {p : Value} (hb : w.heap[c]? = some (.cells #[p, v] 50 (0, 0))) : At w c #[p, v] :=
  ⟨(Array.getElem?_eq_some_iff.1 hb).1, fun i x hx => by
    refine ⟨by rw [Lib.cell_of_heap hb]; exact hx, Lib.frozen_of_heap hb i⟩⟩
theorem heap_set {p : Value} (hb : w.heap[c]? = some (.cells #[p, v] 50 (0, 0))) (q : Value) : (w.setCell ⟨c, 0, none⟩ q).heap[c]? = some (.cells #[q, v] 50 (0, 0)) ∧ (w.setCell ⟨c, 1, none⟩ q).heap[c]? = some (.cells #[p, q] 50 (0, 0)) := by
  constructor <;> simp [World.setCell, Array.getElem?_modify, hb]
def bu_ren : Go.Shelf.Ren := ⟨fun | 240 => 30 | 276 => 43 | n => n, fun | 0 => 0 | 4 => 4 | 5 => 5 | 9 => 9 | 20 => 20 | 70 => 48 | 72 => 50 | 164 => 74 | 37 => 41 | n => n, fun n => n⟩
theorem bu_lays : Lays.n240 Tryz.prog bu_ren := {
  mixed := by kernel_rfl
  f240 := Tryz.func30.trans (congrArg some (by kernel_rfl))
  f276 := Tryz.func43.trans (congrArg some (by kernel_rfl))
  t0 := Tryz.underlying0
  a0 := Tryz.isAgg0
  z0 := Tryz.sizeOf0
  v0 := Tryz.zeroValue0
  t4 := Tryz.underlying4
  a4 := Tryz.isAgg4
  z4 := Tryz.sizeOf4
  v4 := Tryz.zeroValue4
  t9 := Tryz.underlying9
  a9 := Tryz.isAgg9
  z9 := Tryz.sizeOf9
  v9 := Tryz.zeroValue9
  t20 := Tryz.underlying20
  a20 := Tryz.isAgg20
  z20 := Tryz.sizeOf20
  v20 := Tryz.zeroValue20
  t70 := Tryz.underlying48
  a70 := Tryz.isAgg48
  z70 := Tryz.sizeOf48
  v70 := Tryz.zeroValue48
  t72 := Tryz.underlying50
  a72 := Tryz.isAgg50
  z72 := Tryz.sizeOf50
  v72 := Tryz.zeroValue50
  t164 := Tryz.underlying74
  a164 := Tryz.isAgg74
  z164 := Tryz.sizeOf74
  v164 := Tryz.zeroValue74 }
theorem bu_x : Builder.X72 Tryz.prog bu_ren := {
  sizeBuilder := by kernel_rfl
  liesBuilder := by kernel_rfl }
/-- copyCheck. -/
theorem copy_any (h : BU w c v bs) : Calls Tryz.prog 30 #[PB c] w fun e w' => e = .returned (.tuple #[]) ∧ Turn (fun k => k = c) w w' ∧ w'.heap[c]? = some (.cells #[PB c, v] 50 (0, 0)) ∧ BO w' 0 v bs := by
  obtain ⟨p, hp, hb⟩ := h.blk
  have hA := BU.cells hb
  rcases hp with rfl | rfl
  · have := Any.Builder_copyCheck_fresh bu_lays bu_x c w (hA.2 0 _ rfl).1 (by simp [World.shape?, hb]; rfl) (hA.2 0 _ rfl).2
    refine Calls.mono (show Calls Tryz.prog 30 _ _ _ from this) ?_
    rintro e w' ⟨rfl, rfl⟩
    have ht := turn_set w c 0 (PB c)
    exact ⟨rfl, ht, (heap_set hb (PB c)).1, h.bo.turn ht (fun k hk e => h.ne (by rw [hk, e]))⟩
  · have := Any.Builder_copyCheck_used bu_lays bu_x c w (hA.2 0 _ rfl).1
    refine Calls.mono (show Calls Tryz.prog 30 _ _ _ from this) ?_
    rintro e w' ⟨rfl, rfl⟩
    exact ⟨rfl, Turn.refl _, hb, h.bo⟩
end
end Go.Proofs.YtadmpdeegnppjaaGreatDoor
