/- the texts Flat, Pks, Chk, Gat, Cut, in part, merged by program -/
import Derived.Test.YtcjhniehbafhpaaRows
import Derived.WalkKit
import Derived.ProofKit
import Derived.OpenShut
import Derived.ShutString
import Derived.ChangeOld
import Derived.Below
import Derived.Carry
import Derived.SizedLaws
import Derived.ChangeSlices
import Derived.Deep.Slices
import Derived.Deep.RegionHeld3
import Derived.Deep.QuietTactic
import Derived.BigQuiet
import Derived.WalkSmall
import Derived.WalkSpells
import Derived.Deep.RegionWith
import Derived.LoopN
import Derived.Laws.AppendOwn
import Derived.Laws.AppendOwnNone
import Derived.Laws.OwnMore
import Derived.Test.YtcjhniehbafhpaaMA01
namespace Go.Proofs.Ytcjhniehbafhpaa.Flat
open Go.ChangeShapes Go.WideShapes Go.ChangeAt Go.RowKit
set_option linter.unusedVariables false

inductive Kd where
  | i | s | b
def Kd.ok : Kd → Value → Prop
  | .i, v => ∃ z : Int, v = .int .i64 z ∧ (Lit.int .i64 z).wf = true
  | .s, v => ∃ a : ByteArray, v = .string a ∧ a.size ≤ 140737488351232
  | .b, v => ∃ c : Bool, v = .bool c
def Ok (ks : List Kd) (cs : List Value) : Prop := cs.length = ks.length ∧ ∀ (i : Nat) (k : Kd) (v : Value), ks[i]? = some k → cs[i]? = some v → k.ok v
theorem Ok.append {ks ls : List Kd} {cs ds : List Value} (h : Ok ks cs) (k : Ok ls ds) : Ok (ks ++ ls) (cs ++ ds) := by
  refine ⟨by simp [h.1, k.1], fun i x v hx hv => ?_⟩
  by_cases hi : i < ks.length
  · rw [List.getElem?_append_left hi] at hx
    rw [List.getElem?_append_left (by rw [h.1]; exact hi)] at hv
    exact h.2 i x v hx hv
  · rw [List.getElem?_append_right (by omega)] at hx
    rw [List.getElem?_append_right (by rw [h.1]; omega)] at hv
    rw [h.1] at hv
    exact k.2 _ x v hx hv
def fieldsK (P : Program) (go : TypeId → Option (List Kd)) : Nat → List Field → Option (List Kd)
  | _, [] => some []
  | off, f :: r => if f.offset = off then match go f.type with
    | some ks => if P.cellsOf f.type = ks.length then (fieldsK P go (off + ks.length) r).map (ks ++ ·) else none
    | none => none else none
def kindsOf (P : Program) : Nat → TypeId → Option (List Kd)
  | 0, _ => none
  | n + 1, t => match P.underlying t with
    | some (.int .i64) => some [.i]
    | some .string => some [.s]
    | some .bool => some [.b]
    | some (.struct fs) => match fieldsK P (kindsOf P n) 0 fs.toList with
      | some ks => if P.cellsOf t = ks.length then some ks else none
      | none => none
    | _ => none
section
variable {H : Type} {enc : TypeId × Value → H} {P : Program} {w : World} {base : Nat} {spare : Nat → Bool} {held : Bool}
theorem fields_open {m : Nat} {go : TypeId → Option (List Kd)} {fs : List Field} {xs : List (DataW H × List MemPlace)} {cs : List Value}
    (hgo : ∀ t ks cs x, go t = some ks → DataW.trod enc P w base spare held m t cs = some x → (x.1.weights P t).all (· ≤ reachBytes) = true → Ok ks cs) :
    ∀ (off : Nat) (ks : List Kd), fieldsK P go off fs = some ks → xs.length = fs.length → (∀ (i : Nat) (f : Field), fs[i]? = some f → DataW.trod enc P w base spare held m f.type ((cs.drop f.offset).take (P.cellsOf f.type)) = xs[i]?) → (DataW.weightsEach P (fs.map (·.type)) (xs.map (·.1))).all (· ≤ reachBytes) = true → Ok ks ((cs.drop off).take ks.length) ∧ (ks.length = 0 ∨ off + ks.length ≤ cs.length) := by
  induction fs generalizing xs with
  | nil =>
    intro off ks h _ _ _
    simp [fieldsK] at h
    subst h
    exact ⟨⟨rfl, fun i k v hk => by simp at hk⟩, Or.inl rfl⟩
  | cons f r ih =>
    intro off ks h hl hx hw
    unfold fieldsK at h
    split at h
    · rename_i ho
      split at h
      · rename_i k1 hk1
        split at h
        · rename_i hc
          obtain ⟨k2, hk2, rfl⟩ := Option.map_eq_some_iff.1 h
          match xs, hl with
          | x :: ys, hl =>
            have h0 := hx 0 f rfl
            rw [ho, hc] at h0
            simp only [List.getElem?_cons_zero] at h0
            simp only [List.map_cons, DataW.weightsEach, List.all_append, Bool.and_eq_true] at hw
            have o1 := hgo f.type k1 _ x hk1 h0 hw.1
            obtain ⟨o2, l2⟩ := ih (xs := ys) (off + k1.length) k2 hk2 (by simpa using hl) (fun i g hg => by have := hx (i + 1) g (by simpa using hg); simpa using this) hw.2
            have hl1 := o1.1
            rw [List.length_take, List.length_drop] at hl1
            refine ⟨?_, ?_⟩
            · have := o1.append o2
              rw [List.length_append]
              rw [show ((cs.drop off).take (k1.length + k2.length)) = (cs.drop off).take k1.length ++ (cs.drop (off + k1.length)).take k2.length by rw [List.take_add, List.drop_drop]]
              exact this
            · rw [List.length_append]
              have hl2 := o2.1
              rw [List.length_take, List.length_drop] at hl2
              by_cases e : k1.length + k2.length = 0
              · exact Or.inl e
              · right
                omega
        · cases h
      · cases h
    · cases h
theorem flat_open : ∀ (n : Nat) (t : TypeId) (ks : List Kd) (fuel : Nat) (cs : List Value) (x : DataW H × List MemPlace), kindsOf P n t = some ks → DataW.trod enc P w base spare held fuel t cs = some x → (x.1.weights P t).all (· ≤ reachBytes) = true → Ok ks cs
  | 0, t, ks, fuel, cs, x, h, _, _ => by simp [kindsOf] at h
  | n + 1, t, ks, fuel, cs, x, h, ht, hw => by
    unfold kindsOf at h
    split at h
    · rename_i hu
      cases h
      obtain ⟨z, rfl, -, hz⟩ := DataW.trod_int hu ht
      exact ⟨rfl, fun i k v hk hv => by
        match i, hk, hv with
        | 0, hk, hv => cases hk; cases hv; exact ⟨z, rfl, hz⟩⟩
    · rename_i hu
      cases h
      obtain ⟨z, rfl, hx, hz⟩ := DataW.trod_string hu ht
      subst hx
      have hs : z.size ≤ 140737488351232 := by
        simp [DataW.weights, reachBytes] at hw
        exact of_decide_eq_true hw
      exact ⟨rfl, fun i k v hk hv => by
        match i, hk, hv with
        | 0, hk, hv => cases hk; cases hv; exact ⟨z, rfl, hs⟩⟩
    · rename_i hu
      cases h
      obtain ⟨z, rfl, -⟩ := DataW.trod_bool hu ht
      exact ⟨rfl, fun i k v hk hv => by
        match i, hk, hv with
        | 0, hk, hv => cases hk; cases hv; exact ⟨z, rfl⟩⟩
    · rename_i fs hu
      cases hks : fieldsK P (kindsOf P n) 0 fs.toList with
      | none => rw [hks] at h; cases h
      | some ks' =>
        rw [hks] at h
        simp only at h
        have hc : P.cellsOf t = ks'.length := by
          by_cases hc : P.cellsOf t = ks'.length
          · exact hc
          · rw [if_neg hc] at h; cases h
        rw [if_pos hc] at h
        cases h
        obtain ⟨xs, m, rfl, rfl, hl, hlen, hfs⟩ := DataW.trod_struct hu ht
        have hw' : (DataW.weightsEach P (fs.toList.map (·.type)) (xs.map (·.1))).all (· ≤ reachBytes) = true := by simpa only [DataW.weights, hu] using hw
        obtain ⟨o1, -⟩ := fields_open (cs := cs) (xs := xs) (fs := fs.toList) (m := m) (go := kindsOf P n) (fun t ks cs x h1 h2 h3 => flat_open n t ks m cs x h1 h2 h3) 0 ks hks (by simpa using hlen) (fun i f hf => hfs i f (by simpa using hf)) hw'
        rw [List.drop_zero, List.take_of_length_le (by omega)] at o1
        exact o1
    · cases h
theorem mem_all {e : TypeId} : ∀ {ds : List (DataW H)} {d : DataW H}, d ∈ ds → ∀ n ∈ d.weights P e, n ∈ DataW.weightsAll P e ds
  | d0 :: ds, d, hd, n, hn => by
    simp only [DataW.weightsAll, List.mem_append]
    rcases List.mem_cons.1 hd with rfl | hd
    · exact Or.inl hn
    · exact Or.inr (mem_all hd n hn)
def Rows (w : World) (a : Option Addr) (n C : Nat) (ks : List Kd) : Prop :=
  n = 0 ∨ ∃ b off, a = some ⟨b, off, none⟩ ∧ ∀ k, k < n → ∃ cs : List Value, Ok ks cs ∧ ∀ j v, cs[j]? = some v → w.cell? ⟨b, off + k * C + j, none⟩ = some v
theorem rows_open {t e : TypeId} {fuel n : Nat} {c : Value} {x : DataW H × List MemPlace} {ks : List Kd} {a : Option Addr} {len cap : Nat} (hc : c = .slice a len cap) (ht : P.underlying t = some (.slice e)) (hk : kindsOf P n e = some ks) (hn : ks ≠ []) (hC : P.cellsOf e = ks.length)
    (h : DataW.trod enc P w base spare held fuel t [c] = some x) (hw : (x.1.weights P t).all (· ≤ reachBytes) = true) :
    Rows w a len ks.length ks ∧ len * P.bytesOf e ≤ 140737488351232 := by
  subst hc
  rcases Go.Deep.open_slice ht h with ⟨hcs, hx⟩ | ⟨y, l, c, m, f, D, Pl, hcs, -, hl, -, hm, hx, hcell⟩
  · simp at hcs
    obtain ⟨rfl, rfl, rfl⟩ := hcs
    exact ⟨Or.inl rfl, by simp⟩
  · simp at hcs
    obtain ⟨rfl, rfl, rfl⟩ := hcs
    have hlm : len ≤ m := by rw [hm]; split <;> omega
    rw [hx] at hw
    simp only [DataW.weights, ht, List.all_cons, List.all_append, Bool.and_eq_true] at hw
    obtain ⟨w1, w2, -⟩ := hw
    have w1' := of_decide_eq_true w1
    simp only [List.length_map, List.length_range, reachBytes] at w1'
    have hsz : len * P.bytesOf e ≤ 140737488351232 := Nat.le_trans (Nat.mul_le_mul_right _ (by omega)) w1'
    refine ⟨?_, hsz⟩
    by_cases h0 : len = 0
    · exact Or.inl h0
    right
    have each : ∀ k, k < len → ∃ cs, Ok ks cs ∧ ∀ j v, cs[j]? = some v → w.cell? (y.add (k * ks.length + j)) = some v := by
      intro k hk'
      obtain ⟨cs', h1, h2⟩ := hcell k (by omega)
      rw [hC] at h1
      obtain ⟨-, hlen, hc⟩ := World.cells?_some h1
      refine ⟨cs', flat_open n e ks f cs' (D k, Pl k) hk h2 (List.all_eq_true.2 fun z hz => ?_), fun j v hv => ?_⟩
      · exact List.all_eq_true.1 w2 z (mem_all (List.mem_map.2 ⟨k, by simpa using hk', rfl⟩) z hz)
      · have hj : j < ks.length := by rw [← hlen]; exact (List.getElem?_eq_some_iff.1 hv).1
        have := hc j hj
        rw [Addr.add_add, hv] at this
        exact this
    obtain ⟨b, off, spot⟩ := y
    have hs : spot = none := by
      obtain ⟨cs, ho, hc⟩ := each 0 (by omega)
      have hl0 : 0 < cs.length := by
        rw [ho.1]
        exact List.length_pos_iff.2 hn
      have := hc 0 _ (List.getElem?_eq_getElem hl0)
      rw [Nat.zero_mul, Nat.zero_add] at this
      have e : (⟨b, off, spot⟩ : Addr).add 0 = ⟨b, off, spot⟩ := by simp [Addr.add]
      rw [e] at this
      unfold World.cell? at this
      cases spot with
      | none => rfl
      | some s =>
        exfalso
        revert this
        simp only
        split <;> simp
    subst hs
    refine ⟨b, off, rfl, fun k hk' => ?_⟩
    obtain ⟨cs, ho, hc⟩ := each k hk'
    refine ⟨cs, ho, fun j v hv => ?_⟩
    have := hc j v hv
    rw [Addr.add_lit, ← Nat.add_assoc] at this
    exact this
end
end Go.Proofs.Ytcjhniehbafhpaa.Flat

namespace Go.Proofs.Ytcjhniehbafhpaa
open Go.RowKit
set_option maxRecDepth 100000

def mayQ (f t tl pr id fr : Int) (mo : Bool) (zo zd : Nat) : Prop := (0 ≤ f ∧ f ≤ 4294967295) ∧ (0 ≤ t ∧ t ≤ 4294967295) ∧ (0 ≤ tl ∧ tl ≤ 255) ∧ (0 ≤ pr ∧ pr ≤ 255) ∧ (0 ≤ id ∧ id ≤ 65535) ∧ (0 ≤ fr ∧ fr ≤ 8191) ∧ zo % 4 = 0 ∧ zo ≤ 40 ∧ (mo = true → zd ≠ 0 ∧ zd % 8 = 0) ∧ 20 + zo + zd ≤ 65535 ∧ fr * 8 + zd ≤ 65535
instance (f t tl pr id fr : Int) (mo : Bool) (zo zd : Nat) : Decidable (mayQ f t tl pr id fr mo zo zd) := by unfold mayQ; infer_instance
def mayP (f t tl pr id fr : Int) (mo : Bool) (zo zd : Nat) : Bool := decide (mayQ f t tl pr id fr mo zo zd)
theorem mayP_t {f t tl pr id fr : Int} {mo : Bool} {zo zd : Nat} (h : mayQ f t tl pr id fr mo zo zd) : mayP f t tl pr id fr mo zo zd = true := decide_eq_true h
theorem mayP_f {f t tl pr id fr : Int} {mo : Bool} {zo zd : Nat} (h : ¬ mayQ f t tl pr id fr mo zo zd) : mayP f t tl pr id fr mo zo zd = false := decide_eq_false h
theorem mayP_q {f t tl pr id fr : Int} {mo : Bool} {zo zd : Nat} (h : mayP f t tl pr id fr mo zo zd = true) : mayQ f t tl pr id fr mo zo zd := of_decide_eq_true h
def dataB (fr : Int) (mo : Bool) (zo zd : Nat) : Bool := decide ((mo = true → zd ≠ 0 ∧ zd % 8 = 0) ∧ 20 + zo + zd ≤ 65535 ∧ fr * 8 + zd ≤ 65535)
def fitB (n m : Int) : Bool := decide (0 ≤ n ∧ n ≤ m)
theorem fitB_t {n m : Int} (h : 0 ≤ n ∧ n ≤ m) : fitB n m = true := decide_eq_true h
theorem fitB_f {n m : Int} (h : ¬ (0 ≤ n ∧ n ≤ m)) : fitB n m = false := decide_eq_false h
def codeP (b : Bool) : Int := if b = true then 0 else 50

theorem bel1 (w : World) (o : Obj) : Below w.heap.size w (w.alloc o) := (Below.refl _ _).alloc (Nat.le_refl _) o
theorem later {w x : World} {a : Addr} {v : Value} (hb : Below w.heap.size w x) (h : w.cell? a = some v) : x.cell? a = some v := (hb.cell (World.block_lt_of_cell? _ _ h)).trans h
def At (W : World) (b : Nat) (vs : Array Value) : Prop := b < W.heap.size ∧ ∀ i v, vs[i]? = some v → W.cell? ⟨b, i, none⟩ = some v ∧ W.frozen? ⟨b, i, none⟩ = false
theorem At.box (w : World) (vs : Array Value) (t : TypeId) : At (w.alloc (.cells vs t)) w.heap.size vs := by
  refine ⟨by simp, fun i v h => ⟨?_, ?_⟩⟩
  · simp [World.cell?_alloc_new, h]
  · rw [frozen?_alloc_cells]; simp [World.frozen?]
theorem At.later {W x : World} {b : Nat} {vs : Array Value} (h : At W b vs) (hb : Below W.heap.size W x) : At x b vs :=
  ⟨Nat.lt_of_lt_of_le h.1 hb.size, fun i v hi => ⟨Ytcjhniehbafhpaa.later hb (h.2 i v hi).1, (hb.frozen (p := ⟨b, i, none⟩) h.1).trans (h.2 i v hi).2⟩⟩
theorem At.box2 (w : World) (o : Obj) (vs : Array Value) (t : TypeId) : At ((w.alloc o).alloc (.cells vs t)) (w.heap.size + 1) vs := by have := At.box (w.alloc o) vs t; rwa [World.size_alloc] at this
theorem At.ten {W : World} {b : Nat} {v0 v1 v2 v3 v4 v5 v6 v7 v8 v9 : Value} (h : At W b #[v0, v1, v2, v3, v4, v5, v6, v7, v8, v9]) : (W.cell? ⟨b, 0, none⟩ = some v0 ∧ W.cell? ⟨b, 1, none⟩ = some v1 ∧ W.cell? ⟨b, 2, none⟩ = some v2 ∧ W.cell? ⟨b, 3, none⟩ = some v3 ∧ W.cell? ⟨b, 4, none⟩ = some v4 ∧ W.cell? ⟨b, 5, none⟩ = some v5 ∧ W.cell? ⟨b, 6, none⟩ = some v6 ∧ W.cell? ⟨b, 7, none⟩ = some v7 ∧ W.cell? ⟨b, 8, none⟩ = some v8 ∧ W.cell? ⟨b, 9, none⟩ = some v9) ∧ (W.frozen? ⟨b, 0, none⟩ = false ∧ W.frozen? ⟨b, 1, none⟩ = false ∧ W.frozen? ⟨b, 2, none⟩ = false ∧ W.frozen? ⟨b, 3, none⟩ = false ∧ W.frozen? ⟨b, 4, none⟩ = false ∧ W.frozen? ⟨b, 5, none⟩ = false ∧ W.frozen? ⟨b, 6, none⟩ = false ∧ W.frozen? ⟨b, 7, none⟩ = false ∧ W.frozen? ⟨b, 8, none⟩ = false ∧ W.frozen? ⟨b, 9, none⟩ = false) ∧ b < W.heap.size :=
  ⟨⟨(h.2 0 _ rfl).1, (h.2 1 _ rfl).1, (h.2 2 _ rfl).1, (h.2 3 _ rfl).1, (h.2 4 _ rfl).1, (h.2 5 _ rfl).1, (h.2 6 _ rfl).1, (h.2 7 _ rfl).1, (h.2 8 _ rfl).1, (h.2 9 _ rfl).1⟩, ⟨(h.2 0 _ rfl).2, (h.2 1 _ rfl).2, (h.2 2 _ rfl).2, (h.2 3 _ rfl).2, (h.2 4 _ rfl).2, (h.2 5 _ rfl).2, (h.2 6 _ rfl).2, (h.2 7 _ rfl).2, (h.2 8 _ rfl).2, (h.2 9 _ rfl).2⟩, h.1⟩
theorem fits_any (n m : Int) (w : World) : Calls Try.prog 43 #[.int .i64 n, .int .i64 m] w fun e w' => e = .returned (.bool (fitB n m)) ∧ w' = w := by
  by_cases h : 0 ≤ n
  · by_cases h2 : n ≤ m
    · rw [fitB_t ⟨h, h2⟩]
      go_enter Try.func43, Try.ntmps43
      go_wp2
      go_ret
      exact ⟨rfl, rfl⟩
    · rw [fitB_f fun e => h2 e.2]
      go_enter Try.func43, Try.ntmps43
      go_wp2
      go_ret
      exact ⟨rfl, rfl⟩
  · rw [fitB_f fun e => h e.1]
    go_enter Try.func43, Try.ntmps43
    go_wp2
    go_ret
    exact ⟨rfl, rfl⟩
theorem fits_t {n m : Int} (h : fitB n m = true) (w : World) : Calls Try.prog 43 #[.int .i64 n, .int .i64 m] w fun e w' => e = .returned (.bool true) ∧ w' = w := by have := fits_any n m w; rw [h] at this; exact this
theorem fits_f {n m : Int} (h : fitB n m = false) (w : World) : Calls Try.prog 43 #[.int .i64 n, .int .i64 m] w fun e w' => e = .returned (.bool false) ∧ w' = w := by have := fits_any n m w; rw [h] at this; exact this

theorem ret_bool {a b : Bool} (h : a = b) : Ending.returned (.bool a) = .returned (.bool b) := by rw [h]
theorem hl_any (f t tl pr id fr : Int) (mo dn : Bool) (op da : ByteArray) (w : World) (ho : op.size ≤ 1125899906842624) :
    Calls Try.prog 31 #[.agg #[.int .i64 f, .int .i64 t, .int .i64 tl, .int .i64 pr, .int .i64 id, .int .i64 fr, .bool mo, .bool dn, .string op, .string da]] w fun e w' => e = .returned (.int .i64 (20 + (op.size : Int))) ∧ Below w.heap.size w w' := by
  have ho' : (op.size : Int) ≤ 1125899906842624 := by omega
  go_enter Try.func31, Try.ntmps31
  go_wp2
  go_ret
  exact ⟨rfl, bel1 _ _⟩

set_option maxHeartbeats 1000000 in
theorem dm_any (f t tl pr id fr : Int) (mo dn : Bool) (op da : ByteArray) (w : World) (ho : op.size ≤ 1125899906842624) (hd : da.size ≤ 1125899906842624) (h0 : 0 ≤ fr) (h1 : fr ≤ 8191) :
    Calls Try.prog 44 #[.agg #[.int .i64 f, .int .i64 t, .int .i64 tl, .int .i64 pr, .int .i64 id, .int .i64 fr, .bool mo, .bool dn, .string op, .string da]] w fun e w' => e = .returned (.bool (dataB fr mo op.size da.size)) ∧ Below w.heap.size w w' := by
  have hA := At.box w #[.int .i64 f, .int .i64 t, .int .i64 tl, .int .i64 pr, .int .i64 id, .int .i64 fr, .bool mo, .bool dn, .string op, .string da] 32
  have hl := bel1 w (.cells #[.int .i64 f, .int .i64 t, .int .i64 tl, .int .i64 pr, .int .i64 id, .int .i64 fr, .bool mo, .bool dn, .string op, .string da] 32)
  have hom := ho
  have ho' : (op.size : Int) ≤ 1125899906842624 := by omega
  have hd' : (da.size : Int) ≤ 1125899906842624 := by omega
  by_cases hm : mo = true ∧ (da.size = 0 ∨ da.size % 8 ≠ 0)
  · have hb : dataB fr mo op.size da.size = false := decide_eq_false (fun h => by have := h.1 hm.1; omega)
    rw [hb]; clear hb
    obtain ⟨rfl, hm⟩ := hm
    by_cases hz : (da.size : Int) = 0
    · go_enter Try.func44, Try.ntmps44
      go_wp2
      go_ret
      exact ⟨rfl, bel1 _ _⟩
    · have hz8 : ((da.size : Int) % 8 != 0) = true := by simp; omega
      have hz0 : ((da.size : Int) == 0) = false := by simpa using hz
      go_enter Try.func44, Try.ntmps44
      go_wp2
      go_ret
      exact ⟨rfl, bel1 _ _⟩
  · have hb : dataB fr mo op.size da.size = (decide (20 + (op.size : Int) + (da.size : Int) ≤ 65535) && decide (fr * 8 + (da.size : Int) ≤ 65535)) := by
      unfold dataB
      rw [← Bool.decide_and]
      apply decide_eq_decide.2
      constructor
      · rintro ⟨-, a, b⟩; omega
      · rintro ⟨a, b⟩; refine ⟨fun e => ?_, by omega, b⟩
        have : ¬ (da.size = 0 ∨ da.size % 8 ≠ 0) := fun h => hm ⟨e, h⟩
        omega
    rw [hb]; clear hb
    have hw : mo = false ∨ mo = true ∧ ((da.size : Int) == 0) = false ∧ ((da.size : Int) % 8 != 0) = false := by
      cases mo
      · exact .inl rfl
      · refine .inr ⟨rfl, ?_⟩
        have : ¬ (da.size = 0 ∨ da.size % 8 ≠ 0) := fun h => hm ⟨rfl, h⟩
        constructor
        · rw [beq_eq_false_iff_ne]; omega
        · have : (da.size : Int) % 8 = 0 := by omega
          simp [this]
    clear hm
    by_cases g1 : 20 + (op.size : Int) + (da.size : Int) ≤ 65535
    all_goals
      by_cases g2 : fr * 8 + (da.size : Int) ≤ 65535
      all_goals
        simp only [g1, g2, decide_true, decide_false, Bool.and_true, Bool.and_false]
        rcases hw with rfl | ⟨rfl, q1, q2⟩
        all_goals
          go_enter Try.func44, Try.ntmps44
          go_wp2_with fail
          refine (hl_any _ _ _ _ _ _ _ _ _ _ _ hom).mono ?_
          rintro e w1 ⟨rfl, hb⟩
          have hl := bt hl hb
          obtain ⟨⟨c0, c1, c2, c3, c4, c5, c6, c7, c8, c9⟩, -, -⟩ := (hA.later hb).ten
          clear hA hb
          go_wp2
          go_ret
          first | exact ⟨rfl, hl⟩ | exact ⟨ret_bool (decide_eq_false (by omega)), hl⟩

theorem dataB_f {fr : Int} {mo : Bool} {zo zd : Nat} (h : ¬ ((mo = true → zd ≠ 0 ∧ zd % 8 = 0) ∧ 20 + zo + zd ≤ 65535 ∧ fr * 8 + zd ≤ 65535)) : dataB fr mo zo zd = false := decide_eq_false h
theorem dataB_t {fr : Int} {mo : Bool} {zo zd : Nat} (h : (mo = true → zd ≠ 0 ∧ zd % 8 = 0) ∧ 20 + zo + zd ≤ 65535 ∧ fr * 8 + zd ≤ 65535) : dataB fr mo zo zd = true := decide_eq_true h
theorem may_ways (f t tl pr id fr : Int) (mo : Bool) (zo zd : Nat) :
    (mayP f t tl pr id fr mo zo zd = false ∧ fitB f 4294967295 = false) ∨
    (mayP f t tl pr id fr mo zo zd = false ∧ fitB f 4294967295 = true ∧ fitB t 4294967295 = false) ∨
    (mayP f t tl pr id fr mo zo zd = false ∧ fitB f 4294967295 = true ∧ fitB t 4294967295 = true ∧ fitB tl 255 = false) ∨
    (mayP f t tl pr id fr mo zo zd = false ∧ fitB f 4294967295 = true ∧ fitB t 4294967295 = true ∧ fitB tl 255 = true ∧ fitB pr 255 = false) ∨
    (mayP f t tl pr id fr mo zo zd = false ∧ fitB f 4294967295 = true ∧ fitB t 4294967295 = true ∧ fitB tl 255 = true ∧ fitB pr 255 = true ∧ fitB id 65535 = false) ∨
    (mayP f t tl pr id fr mo zo zd = false ∧ fitB f 4294967295 = true ∧ fitB t 4294967295 = true ∧ fitB tl 255 = true ∧ fitB pr 255 = true ∧ fitB id 65535 = true ∧ fitB fr 8191 = false) ∨
    (mayP f t tl pr id fr mo zo zd = false ∧ fitB f 4294967295 = true ∧ fitB t 4294967295 = true ∧ fitB tl 255 = true ∧ fitB pr 255 = true ∧ fitB id 65535 = true ∧ fitB fr 8191 = true ∧ ((zo : Int) % 4 == 0) = false) ∨
    (mayP f t tl pr id fr mo zo zd = false ∧ fitB f 4294967295 = true ∧ fitB t 4294967295 = true ∧ fitB tl 255 = true ∧ fitB pr 255 = true ∧ fitB id 65535 = true ∧ fitB fr 8191 = true ∧ ((zo : Int) % 4 == 0) = true ∧ 40 < (zo : Int)) ∨
    (mayP f t tl pr id fr mo zo zd = dataB fr mo zo zd ∧ fitB f 4294967295 = true ∧ fitB t 4294967295 = true ∧ fitB tl 255 = true ∧ fitB pr 255 = true ∧ fitB id 65535 = true ∧ fitB fr 8191 = true ∧ ((zo : Int) % 4 == 0) = true ∧ (zo : Int) ≤ 40 ∧ 0 ≤ fr ∧ fr ≤ 8191) := by
  by_cases h1 : 0 ≤ f ∧ f ≤ 4294967295
  · by_cases h2 : 0 ≤ t ∧ t ≤ 4294967295
    · by_cases h3 : 0 ≤ tl ∧ tl ≤ 255
      · by_cases h4 : 0 ≤ pr ∧ pr ≤ 255
        · by_cases h5 : 0 ≤ id ∧ id ≤ 65535
          · by_cases h6 : 0 ≤ fr ∧ fr ≤ 8191
            · by_cases h7 : (zo : Int) % 4 = 0
              · by_cases h8 : (zo : Int) ≤ 40
                · refine .inr (.inr (.inr (.inr (.inr (.inr (.inr (.inr ⟨?_, fitB_t h1, fitB_t h2, fitB_t h3, fitB_t h4, fitB_t h5, fitB_t h6, by simpa using h7, h8, h6.1, h6.2⟩)))))))
                  apply decide_eq_decide.2
                  constructor
                  · intro h; exact h.2.2.2.2.2.2.2.2
                  · intro h; exact ⟨h1, h2, h3, h4, h5, h6, by omega, by omega, h⟩
                · exact .inr (.inr (.inr (.inr (.inr (.inr (.inr (.inl ⟨mayP_f fun h => h8 (by have := h.2.2.2.2.2.2.2.1; omega), fitB_t h1, fitB_t h2, fitB_t h3, fitB_t h4, fitB_t h5, fitB_t h6, by simpa using h7, by omega⟩)))))))
              · exact .inr (.inr (.inr (.inr (.inr (.inr (.inl ⟨mayP_f fun h => h7 (by have := h.2.2.2.2.2.2.1; omega), fitB_t h1, fitB_t h2, fitB_t h3, fitB_t h4, fitB_t h5, fitB_t h6, by simpa using h7⟩))))))
            · exact .inr (.inr (.inr (.inr (.inr (.inl ⟨mayP_f fun h => h6 h.2.2.2.2.2.1, fitB_t h1, fitB_t h2, fitB_t h3, fitB_t h4, fitB_t h5, fitB_f h6⟩)))))
          · exact .inr (.inr (.inr (.inr (.inl ⟨mayP_f fun h => h5 h.2.2.2.2.1, fitB_t h1, fitB_t h2, fitB_t h3, fitB_t h4, fitB_f h5⟩))))
        · exact .inr (.inr (.inr (.inl ⟨mayP_f fun h => h4 h.2.2.2.1, fitB_t h1, fitB_t h2, fitB_t h3, fitB_f h4⟩)))
      · exact .inr (.inr (.inl ⟨mayP_f fun h => h3 h.2.2.1, fitB_t h1, fitB_t h2, fitB_f h3⟩))
    · exact .inr (.inl ⟨mayP_f fun h => h2 h.2.1, fitB_t h1, fitB_f h2⟩)
  · exact .inl ⟨mayP_f fun h => h1 h.1, fitB_f h1⟩

set_option maxHeartbeats 1000000 in
theorem mp_any (f t tl pr id fr : Int) (mo dn : Bool) (op da : ByteArray) (w : World) (ho : op.size ≤ 1125899906842624) (hd : da.size ≤ 1125899906842624) :
    Calls Try.prog 30 #[.agg #[.int .i64 f, .int .i64 t, .int .i64 tl, .int .i64 pr, .int .i64 id, .int .i64 fr, .bool mo, .bool dn, .string op, .string da]] w fun e w' => e = .returned (.bool (mayP f t tl pr id fr mo op.size da.size)) ∧ Below w.heap.size w w' := by
  have ho' : (op.size : Int) ≤ 1125899906842624 := by omega
  have hl := bel1 w (.cells #[.int .i64 f, .int .i64 t, .int .i64 tl, .int .i64 pr, .int .i64 id, .int .i64 fr, .bool mo, .bool dn, .string op, .string da] 32)
  rcases may_ways f t tl pr id fr mo op.size da.size with ⟨hm, a1⟩ | ⟨hm, a1, a2⟩ | ⟨hm, a1, a2, a3⟩ | ⟨hm, a1, a2, a3, a4⟩ | ⟨hm, a1, a2, a3, a4, a5⟩ | ⟨hm, a1, a2, a3, a4, a5, a6⟩ | ⟨hm, a1, a2, a3, a4, a5, a6, a7⟩ | ⟨hm, a1, a2, a3, a4, a5, a6, a7, a8⟩ | ⟨hm, a1, a2, a3, a4, a5, a6, a7, a8, a9, b0⟩
  all_goals rw [hm]; clear hm
  iterate 8 
    · go_enter Try.func30, Try.ntmps30
      go_wp2_with (first | (go_at_call 43; refine (fits_t (by assumption) _).mono ?_; rintro e w1 ⟨rfl, rfl⟩) | (go_at_call 43; refine (fits_f (by assumption) _).mono ?_; rintro e w1 ⟨rfl, rfl⟩))
      go_ret
      exact ⟨rfl, bel1 _ _⟩
  · have hc := fun W => dm_any f t tl pr id fr mo dn op da W ho hd a9 b0
    clear ho hd a9 b0
    generalize dataB fr mo op.size da.size = B at *
    go_enter Try.func30, Try.ntmps30
    go_wp2_with (first | (go_at_call 43; refine (fits_t (by assumption) _).mono ?_; rintro e w1 ⟨rfl, rfl⟩) | (go_at_call 44; refine (hc _).mono ?_; rintro e w1 ⟨rfl, hb⟩))
    go_ret
    exact ⟨rfl, bt hl hb⟩
theorem mp_t {f t tl pr id fr : Int} {mo dn : Bool} {op da : ByteArray} (h : mayP f t tl pr id fr mo op.size da.size = true) (w : World) (ho : op.size ≤ 1125899906842624) (hd : da.size ≤ 1125899906842624) : Calls Try.prog 30 #[.agg #[.int .i64 f, .int .i64 t, .int .i64 tl, .int .i64 pr, .int .i64 id, .int .i64 fr, .bool mo, .bool dn, .string op, .string da]] w fun e w' => e = .returned (.bool true) ∧ Below w.heap.size w w' := by
  have := mp_any f t tl pr id fr mo dn op da w ho hd; rw [h] at this; exact this
theorem mp_f {f t tl pr id fr : Int} {mo dn : Bool} {op da : ByteArray} (h : mayP f t tl pr id fr mo op.size da.size = false) (w : World) (ho : op.size ≤ 1125899906842624) (hd : da.size ≤ 1125899906842624) : Calls Try.prog 30 #[.agg #[.int .i64 f, .int .i64 t, .int .i64 tl, .int .i64 pr, .int .i64 id, .int .i64 fr, .bool mo, .bool dn, .string op, .string da]] w fun e w' => e = .returned (.bool false) ∧ Below w.heap.size w w' := by
  have := mp_any f t tl pr id fr mo dn op da w ho hd; rw [h] at this; exact this
end Go.Proofs.Ytcjhniehbafhpaa

namespace Go.Proofs.Ytcjhniehbafhpaa
open Go.RowKit
set_option maxRecDepth 100000
theorem ric_t {n : Int} (h : fitB n 4294967295 = true) (w : World) : Calls Try.prog 41 #[.int .i64 n] w fun e w' => e = .returned (.int .i64 0) ∧ w' = w := by
  have := rcheck_any n w; rw [outB_f (of_decide_eq_true h)] at this; exact this
theorem ric_f {n : Int} (h : fitB n 4294967295 = false) (w : World) : Calls Try.prog 41 #[.int .i64 n] w fun e w' => e = .returned (.int .i64 1) ∧ w' = w := by
  have := rcheck_any n w; rw [outB_t (by have := of_decide_eq_false h; omega)] at this; exact this
theorem fit_no {n m : Int} (h : fitB n m = false) : n < 0 ∨ 0 ≤ n ∧ m < n := by have := of_decide_eq_false h; omega
theorem fit_yes {n m : Int} (h : fitB n m = true) : 0 ≤ n ∧ n ≤ m := of_decide_eq_true h

set_option maxRecDepth 100000 in
set_option maxHeartbeats 4000000 in
theorem rchk_bad (f t tl pr id fr : Int) (mo dn : Bool) (op da : ByteArray) (w : World) (h : fitB f 4294967295 = false ∨ fitB f 4294967295 = true ∧ fitB t 4294967295 = false) :
    Calls Try.prog 24 #[.agg #[.int .i64 f, .int .i64 t, .int .i64 tl, .int .i64 pr, .int .i64 id, .int .i64 fr, .bool mo, .bool dn, .string op, .string da]] w fun e w' => e = .returned (.int .i64 50) ∧ Below w.heap.size w w' := by
  rcases h with h1 | ⟨h1, h2⟩
  all_goals
    go_enter Try.func24, Try.ntmps24
    go_wp2_with (first | (go_at_call 41; refine (ric_f (by assumption) _).mono ?_; rintro e w1 ⟨rfl, rfl⟩) | (go_at_call 41; refine (ric_t (by assumption) _).mono ?_; rintro e w1 ⟨rfl, rfl⟩))
    all_goals
      go_ret
      exact ⟨rfl, bel1 _ _⟩

set_option maxRecDepth 100000 in
set_option maxHeartbeats 4000000 in
theorem rchk_mid (f t tl pr id fr : Int) (mo dn : Bool) (op da : ByteArray) (w : World) (ho : op.size ≤ 1125899906842624) (h1 : fitB f 4294967295 = true) (h2 : fitB t 4294967295 = true)
    (h : tl < 0 ∨ (0 ≤ tl ∧ 255 < tl) ∨ (0 ≤ tl ∧ tl ≤ 255) ∧ (pr < 0 ∨ (0 ≤ pr ∧ 255 < pr) ∨ (0 ≤ pr ∧ pr ≤ 255) ∧ (id < 0 ∨ (0 ≤ id ∧ 65535 < id) ∨ (0 ≤ id ∧ id ≤ 65535) ∧ (fr < 0 ∨ (0 ≤ fr ∧ 8191 < fr) ∨ (0 ≤ fr ∧ fr ≤ 8191) ∧ (((op.size : Int) % 4 != 0) = true ∨ ((op.size : Int) % 4 != 0) = false ∧ 40 < (op.size : Int)))))) :
    Calls Try.prog 24 #[.agg #[.int .i64 f, .int .i64 t, .int .i64 tl, .int .i64 pr, .int .i64 id, .int .i64 fr, .bool mo, .bool dn, .string op, .string da]] w fun e w' => e = .returned (.int .i64 50) ∧ Below w.heap.size w w' := by
  have ho' : (op.size : Int) ≤ 1125899906842624 := by omega
  rcases h with q | ⟨q, q1⟩ | ⟨⟨q, q1⟩, q2 | ⟨q2, q3⟩ | ⟨⟨q2, q3⟩, q4 | ⟨q4, q5⟩ | ⟨⟨q4, q5⟩, q6 | ⟨q6, q7⟩ | ⟨⟨q6, q7⟩, q8 | ⟨q8, q9⟩⟩⟩⟩⟩
  all_goals
    go_enter Try.func24, Try.ntmps24
    go_wp2_with (first | (go_at_call 41; refine (ric_t (by assumption) _).mono ?_; rintro e w1 ⟨rfl, rfl⟩))
    go_ret
    exact ⟨rfl, bel1 _ _⟩

set_option maxRecDepth 100000 in
set_option maxHeartbeats 4000000 in
theorem rchk_end (f t tl pr id fr : Int) (mo dn : Bool) (op da : ByteArray) (w : World) (b : Bool) (ho : op.size ≤ 1125899906842624) (hd : da.size ≤ 1125899906842624) (h1 : fitB f 4294967295 = true) (h2 : fitB t 4294967295 = true) (q0 : 0 ≤ tl) (q1 : tl ≤ 255) (q2 : 0 ≤ pr) (q3 : pr ≤ 255) (q4 : 0 ≤ id) (q5 : id ≤ 65535) (q6 : 0 ≤ fr) (q7 : fr ≤ 8191) (q8 : ((op.size : Int) % 4 != 0) = false) (q9 : (op.size : Int) ≤ 40)
    (h : b = false ∧ 65515 - (op.size : Int) < (da.size : Int) ∨ (da.size : Int) ≤ 65515 - (op.size : Int) ∧ (b = false ∧ mo = true ∧ (da.size : Int) = 0 ∨ b = false ∧ mo = true ∧ ((da.size : Int) == 0) = false ∧ ((da.size : Int) % 8 != 0) = true ∨ (mo = false ∨ mo = true ∧ ((da.size : Int) == 0) = false ∧ ((da.size : Int) % 8 != 0) = false) ∧ (b = false ∧ 65535 - 8 * fr < (da.size : Int) ∨ b = true ∧ (da.size : Int) ≤ 65535 - 8 * fr))) :
    Calls Try.prog 24 #[.agg #[.int .i64 f, .int .i64 t, .int .i64 tl, .int .i64 pr, .int .i64 id, .int .i64 fr, .bool mo, .bool dn, .string op, .string da]] w fun e w' => e = .returned (.int .i64 (codeP b)) ∧ Below w.heap.size w w' := by
  have ho' : (op.size : Int) ≤ 1125899906842624 := by omega
  have hd' : (da.size : Int) ≤ 1125899906842624 := by omega
  rcases h with ⟨rfl, a1⟩ | ⟨a1, ⟨rfl, rfl, a2⟩ | ⟨rfl, rfl, a2, a3⟩ | ⟨rfl | ⟨rfl, a2, a3⟩, ⟨rfl, a4⟩ | ⟨rfl, a4⟩⟩⟩
  all_goals
    go_enter Try.func24, Try.ntmps24
    go_wp2_with (first | (go_at_call 41; refine (ric_t (by assumption) _).mono ?_; rintro e w1 ⟨rfl, rfl⟩))
    go_ret
    exact ⟨rfl, bel1 _ _⟩

theorem rchk_any (f t tl pr id fr : Int) (mo dn : Bool) (op da : ByteArray) (w : World) (ho : op.size ≤ 1125899906842624) (hd : da.size ≤ 1125899906842624) :
    Calls Try.prog 24 #[.agg #[.int .i64 f, .int .i64 t, .int .i64 tl, .int .i64 pr, .int .i64 id, .int .i64 fr, .bool mo, .bool dn, .string op, .string da]] w fun e w' => e = .returned (.int .i64 (codeP (mayP f t tl pr id fr mo op.size da.size))) ∧ Below w.heap.size w w' := by
  rcases may_ways f t tl pr id fr mo op.size da.size with ⟨hm, a1⟩ | ⟨hm, a1, a2⟩ | ⟨hm, a1, a2, a3⟩ | ⟨hm, a1, a2, a3, a4⟩ | ⟨hm, a1, a2, a3, a4, a5⟩ | ⟨hm, a1, a2, a3, a4, a5, a6⟩ | ⟨hm, a1, a2, a3, a4, a5, a6, a7⟩ | ⟨hm, a1, a2, a3, a4, a5, a6, a7, a8⟩ | ⟨hm, a1, a2, a3, a4, a5, a6, a7, a8, a9, b0⟩
  · rw [hm]; exact rchk_bad f t tl pr id fr mo dn op da w (.inl a1)
  · rw [hm]; exact rchk_bad f t tl pr id fr mo dn op da w (.inr ⟨a1, a2⟩)
  · rw [hm]; refine rchk_mid f t tl pr id fr mo dn op da w ho a1 a2 ?_
    rcases fit_no a3 with q | q
    · exact .inl q
    · exact .inr (.inl q)
  · rw [hm]; refine rchk_mid f t tl pr id fr mo dn op da w ho a1 a2 (.inr (.inr ⟨fit_yes a3, ?_⟩))
    rcases fit_no a4 with q | q
    · exact .inl q
    · exact .inr (.inl q)
  · rw [hm]; refine rchk_mid f t tl pr id fr mo dn op da w ho a1 a2 (.inr (.inr ⟨fit_yes a3, .inr (.inr ⟨fit_yes a4, ?_⟩)⟩))
    rcases fit_no a5 with q | q
    · exact .inl q
    · exact .inr (.inl q)
  · rw [hm]; refine rchk_mid f t tl pr id fr mo dn op da w ho a1 a2 (.inr (.inr ⟨fit_yes a3, .inr (.inr ⟨fit_yes a4, .inr (.inr ⟨fit_yes a5, ?_⟩)⟩)⟩))
    rcases fit_no a6 with q | q
    · exact .inl q
    · exact .inr (.inl q)
  · rw [hm]; refine rchk_mid f t tl pr id fr mo dn op da w ho a1 a2 (.inr (.inr ⟨fit_yes a3, .inr (.inr ⟨fit_yes a4, .inr (.inr ⟨fit_yes a5, .inr (.inr ⟨fit_yes a6, .inl ?_⟩)⟩)⟩)⟩))
    simpa using a7
  · rw [hm]; refine rchk_mid f t tl pr id fr mo dn op da w ho a1 a2 (.inr (.inr ⟨fit_yes a3, .inr (.inr ⟨fit_yes a4, .inr (.inr ⟨fit_yes a5, .inr (.inr ⟨fit_yes a6, .inr ⟨?_, a8⟩⟩)⟩)⟩)⟩))
    simpa using a7
  · rw [hm]
    refine rchk_end f t tl pr id fr mo dn op da w _ ho hd a1 a2 (fit_yes a3).1 (fit_yes a3).2 (fit_yes a4).1 (fit_yes a4).2 (fit_yes a5).1 (fit_yes a5).2 a9 b0 (by simpa using a7) a8 ?_
    by_cases g1 : 65515 - (op.size : Int) < (da.size : Int)
    · exact .inl ⟨dataB_f (fun h => by have := h.2.1; omega), g1⟩
    · refine .inr ⟨by omega, ?_⟩
      by_cases g2 : mo = true ∧ (da.size : Int) = 0
      · exact .inl ⟨dataB_f (fun h => by have := (h.1 g2.1).1; omega), g2.1, g2.2⟩
      · by_cases g3 : mo = true ∧ ((da.size : Int) % 8 != 0) = true
        · refine .inr (.inl ⟨dataB_f (fun h => ?_), g3.1, ?_, g3.2⟩)
          · have := (h.1 g3.1).2
            have g4 := g3.2
            rw [bne_iff_ne] at g4
            omega
          · rw [beq_eq_false_iff_ne]; exact fun e => g2 ⟨g3.1, e⟩
        · have hmo : mo = false ∨ mo = true ∧ ((da.size : Int) == 0) = false ∧ ((da.size : Int) % 8 != 0) = false := by
            cases mo
            · exact .inl rfl
            · refine .inr ⟨rfl, by rw [beq_eq_false_iff_ne]; exact fun e => g2 ⟨rfl, e⟩, ?_⟩
              simpa using g3
          refine .inr (.inr ⟨hmo, ?_⟩)
          by_cases g5 : 65535 - 8 * fr < (da.size : Int)
          · exact .inl ⟨dataB_f (fun h => by have := h.2.2; omega), g5⟩
          · refine .inr ⟨dataB_t ⟨fun e => ?_, by omega, by omega⟩, by omega⟩
            rcases hmo with h | ⟨_, k1, k2⟩
            · rw [h] at e; cases e
            · rw [beq_eq_false_iff_ne] at k1
              rw [bne_eq_false_iff_eq] at k2
              omega
theorem rchk_t {f t tl pr id fr : Int} {mo dn : Bool} {op da : ByteArray} (h : mayP f t tl pr id fr mo op.size da.size = true) (w : World) (ho : op.size ≤ 1125899906842624) (hd : da.size ≤ 1125899906842624) : Calls Try.prog 24 #[.agg #[.int .i64 f, .int .i64 t, .int .i64 tl, .int .i64 pr, .int .i64 id, .int .i64 fr, .bool mo, .bool dn, .string op, .string da]] w fun e w' => e = .returned (.int .i64 0) ∧ Below w.heap.size w w' := by
  have := rchk_any f t tl pr id fr mo dn op da w ho hd; rw [h] at this; exact this
theorem rchk_f {f t tl pr id fr : Int} {mo dn : Bool} {op da : ByteArray} (h : mayP f t tl pr id fr mo op.size da.size = false) (w : World) (ho : op.size ≤ 1125899906842624) (hd : da.size ≤ 1125899906842624) : Calls Try.prog 24 #[.agg #[.int .i64 f, .int .i64 t, .int .i64 tl, .int .i64 pr, .int .i64 id, .int .i64 fr, .bool mo, .bool dn, .string op, .string da]] w fun e w' => e = .returned (.int .i64 50) ∧ Below w.heap.size w w' := by
  have := rchk_any f t tl pr id fr mo dn op da w ho hd; rw [h] at this; exact this

theorem chk_t {f t tl pr id fr : Int} {mo dn : Bool} {op da : ByteArray} (h : mayP f t tl pr id fr mo op.size da.size = true) (w : World) (ho : op.size ≤ 1125899906842624) (hd : da.size ≤ 1125899906842624) : Calls Try.prog 17 #[.agg #[.int .i64 f, .int .i64 t, .int .i64 tl, .int .i64 pr, .int .i64 id, .int .i64 fr, .bool mo, .bool dn, .string op, .string da]] w fun e w' => e = .returned (.int .i64 0) ∧ Below w.heap.size w w' := by
  have hl := bel1 w (.cells #[.int .i64 f, .int .i64 t, .int .i64 tl, .int .i64 pr, .int .i64 id, .int .i64 fr, .bool mo, .bool dn, .string op, .string da] 32)
  go_enter Try.func17, Try.ntmps17
  go_wp2_with fail
  refine (mp_t h _ ho hd).mono ?_
  rintro e w1 ⟨rfl, hb⟩
  go_wp2
  go_ret
  exact ⟨rfl, bt hl hb⟩
theorem chk_f {f t tl pr id fr : Int} {mo dn : Bool} {op da : ByteArray} (h : mayP f t tl pr id fr mo op.size da.size = false) (w : World) (ho : op.size ≤ 1125899906842624) (hd : da.size ≤ 1125899906842624) : Calls Try.prog 17 #[.agg #[.int .i64 f, .int .i64 t, .int .i64 tl, .int .i64 pr, .int .i64 id, .int .i64 fr, .bool mo, .bool dn, .string op, .string da]] w fun e w' => e = .returned (.int .i64 50) ∧ Below w.heap.size w w' := by
  have hl := bel1 w (.cells #[.int .i64 f, .int .i64 t, .int .i64 tl, .int .i64 pr, .int .i64 id, .int .i64 fr, .bool mo, .bool dn, .string op, .string da] 32)
  go_enter Try.func17, Try.ntmps17
  go_wp2_with fail
  refine (mp_f h _ ho hd).mono ?_
  rintro e w1 ⟨rfl, hb⟩
  go_wp2
  go_ret
  exact ⟨rfl, bt hl hb⟩
def wholeB (fr : Int) (mo : Bool) : Bool := decide (fr = 0) && !mo
theorem whl_any (f t tl pr id fr : Int) (mo dn : Bool) (op da : ByteArray) (w : World) : Calls Try.prog 22 #[.agg #[.int .i64 f, .int .i64 t, .int .i64 tl, .int .i64 pr, .int .i64 id, .int .i64 fr, .bool mo, .bool dn, .string op, .string da]] w fun e w' => e = .returned (.bool (wholeB fr mo)) ∧ Below w.heap.size w w' := by
  unfold wholeB
  by_cases h : fr = 0
  · rw [decide_eq_true h]
    go_enter Try.func22, Try.ntmps22
    go_wp2
    go_ret
    exact ⟨ret_bool (by simp), bel1 _ _⟩
  · rw [decide_eq_false h]
    have h' : (fr == 0) = false := by simpa using h
    go_enter Try.func22, Try.ntmps22
    go_wp2
    go_ret
    exact ⟨rfl, bel1 _ _⟩
theorem rwhl_any (f t tl pr id fr : Int) (mo dn : Bool) (op da : ByteArray) (w : World) : Calls Try.prog 25 #[.agg #[.int .i64 f, .int .i64 t, .int .i64 tl, .int .i64 pr, .int .i64 id, .int .i64 fr, .bool mo, .bool dn, .string op, .string da]] w fun e w' => e = .returned (.bool (wholeB fr mo)) ∧ Below w.heap.size w w' := by
  unfold wholeB
  by_cases h : fr = 0
  · rw [decide_eq_true h]
    go_enter Try.func25, Try.ntmps25
    go_wp2
    go_ret
    exact ⟨ret_bool (by simp), bel1 _ _⟩
  · rw [decide_eq_false h]
    have h' : (fr == 0) = false := by simpa using h
    go_enter Try.func25, Try.ntmps25
    go_wp2
    go_ret
    exact ⟨rfl, bel1 _ _⟩

end Go.Proofs.Ytcjhniehbafhpaa

namespace Go.Proofs.Ytcjhniehbafhpaa
open Go.RowKit
set_option maxRecDepth 100000

theorem info32 : (Try.prog.info? 32).map (fun i => (i.zero, i.size, i.bytes)) = some (some (.agg #[.int .i64 0, .int .i64 0, .int .i64 0, .int .i64 0, .int .i64 0, .int .i64 0, .bool false, .bool false, .string ⟨#[]⟩, .string ⟨#[]⟩]), 10, 88) := by kernel_rfl
theorem grownBy_setCell (w : World) (a : Addr) (v : Value) : w.grownBy (w.setCell a v) (some a.block) :=
  ⟨rfl, rfl, rfl, by simp [World.setCell], fun k _ hk => by
    have hne : a.block ≠ k := fun e => hk (by rw [e])
    simp only [World.setCell]
    simp [Array.getElem?_modify, hne]⟩
theorem own_setCell {w : World} {base : Nat} {e : TypeId} {size n : Nat} {v : Value} {xs : List Value} (h : w.ownsRow base e size v n xs) (b j : Nat) (u : Value) (hb : b < base) : (w.setCell ⟨b, j, none⟩ u).ownsRow base e size v n xs :=
  h.kept (grownBy_setCell w ⟨b, j, none⟩ u) (by
    cases hv : v.ownBlock with
    | none => exact .inl rfl
    | some k => exact .inr (fun e => by have := (h.lt k hv).1; simp at e; omega))
theorem one10 (f t tl pr id fr : Int) (mo dn : Bool) (op da : ByteArray) : ∀ u ∈ ([.int .i64 f, .int .i64 t, .int .i64 tl, .int .i64 pr, .int .i64 id, .int .i64 fr, .bool mo, .bool dn, .string op, .string da] : List Value), u.oneCell' = true := by
  intro u hu
  simp only [List.mem_cons, List.not_mem_nil, or_false] at hu
  rcases hu with rfl | rfl | rfl | rfl | rfl | rfl | rfl | rfl | rfl | rfl <;> rfl

set_option maxRecDepth 100000 in
set_option maxHeartbeats 4000000 in
theorem gather_any (f t tl pr id fr : Int) (mo dn : Bool) (op da : ByteArray) (x y : Int) (more : Bool) (w0 W : World) (base0 b B R0 n : Nat) (v : Value) (xs : List Value)
    (hx0 : 0 ≤ x) (hxy : x ≤ y) (hy : y ≤ (da.size : Int)) (hd : (da.size : Int) ≤ 65535) (hf0 : 0 ≤ fr) (hf1 : fr ≤ 8191) (hn : n ≤ 65535)
    (hbel : Below base0 w0 W) (hb0 : base0 ≤ b) (hB0 : base0 ≤ B) (hbB : b < B) (hBR : B < R0) (hR : R0 ≤ W.heap.size) (hp : At W b #[.int .i64 f, .int .i64 t, .int .i64 tl, .int .i64 pr, .int .i64 id, .int .i64 fr, .bool mo, .bool dn, .string op, .string da]) (hB : At W B #[v]) (hown : W.ownsRow R0 32 10 v n xs) :
    Calls Try.prog 45 #[.int .i64 x, .int .i64 y, .bool more, .pointer (some ⟨b, 0, none⟩), .pointer (some ⟨B, 0, none⟩)] W fun e w' => ∃ v', e = .returned (.tuple #[]) ∧ Below base0 w0 w' ∧ R0 ≤ w'.heap.size ∧ At w' b #[.int .i64 f, .int .i64 t, .int .i64 tl, .int .i64 pr, .int .i64 id, .int .i64 fr, .bool mo, .bool dn, .string op, .string da] ∧ At w' B #[v'] ∧ w'.ownsRow R0 32 10 v' (n + 1) (xs ++ [.int .i64 f, .int .i64 t, .int .i64 tl, .int .i64 pr, .int .i64 id, .int .i64 (fr + x / 8), .bool more, .bool dn, .string op, .string (da.extract x.toNat y.toNat)]) ∧ v' ≠ .slice none 0 0 := by
  obtain ⟨i0, hi, hz0, hz1, hz2⟩ := info_parts info32
  obtain ⟨⟨c0, c1, c2, c3, c4, c5, c6, c7, c8, c9⟩, -, -⟩ := hp.ten
  have hq := hB.2 0 v rfl
  have hx8 : 0 ≤ x / 8 := by omega
  have hx9 : x / 8 ≤ 8191 := by omega
  have hne1 : b ≠ W.heap.size := by have := hp.1; omega
  have hne2 : B ≠ W.heap.size := by have := hB.1; omega
  have hc9 : ∀ o, (W.alloc o).cell? ⟨b, 9, none⟩ = some (.string da) := fun o => later (bel1 W o) c9
  have hcB : ∀ o, (W.alloc o).cell? ⟨B, 0, none⟩ = some v := fun o => later (bel1 W o) hq.1
  have hx10 : 0 ≤ y := by omega
  have hx11 : x ≤ (da.size : Int) := by omega
  go_enter Try.func45, Try.ntmps45
  go_wp2_with (first | (at_builtin; refine wpList_append_own _ rfl _ _ 36 rfl R0 32 i0 (.agg #[.int .i64 0, .int .i64 0, .int .i64 0, .int .i64 0, .int .i64 0, .int .i64 0, .bool false, .bool false, .string ⟨#[]⟩, .string ⟨#[]⟩]) 10 88 Try.underlying36 hi hz0 hz1 hz2 rfl (by decide) v n xs rfl ((hown.alloc _).alloc _) ⟨W.heap.size + 1, 0, none⟩ 1 1 [.int .i64 f, .int .i64 t, .int .i64 tl, .int .i64 pr, .int .i64 id, .int .i64 (fr + x / 8), .bool more, .bool dn, .string op, .string (da.extract x.toNat y.toNat)] rfl rfl ?c1 (one10 _ _ _ _ _ _ _ _ _ _) ?c3 ?c4 ?c5 ?_))
  case c1 =>
    intro j u hu
    rw [Addr.add_lit, Nat.zero_add]
    have := (At.box (W.alloc (.cells #[.int .i64 f, .int .i64 t, .int .i64 tl, .int .i64 pr, .int .i64 id, .int .i64 (fr + x / 8), .bool more, .bool dn, .string op, .string (da.extract x.toNat y.toNat)] 32)) #[.int .i64 f, .int .i64 t, .int .i64 tl, .int .i64 pr, .int .i64 id, .int .i64 (fr + x / 8), .bool more, .bool dn, .string op, .string (da.extract x.toNat y.toNat)] 32).2 j u (by simpa using hu)
    rw [World.size_alloc] at this
    exact this.1
  case c3 => unfold maxLen; omega
  case c4 => omega
  case c5 => simp; omega
  intro v' w4 hown4 hgrow hnil
  have hB1 : Below base0 w0 w4 := ((hbel.alloc (by omega) _).alloc (by simp; omega) _).grown hgrow (by simp; omega) (fun k e => by have := (hown.lt k e).1; omega)
  have hkeep : ∀ k, k < R0 → w4.heap[k]? = W.heap[k]? := by
    intro k hk
    have h1 := hgrow.block k (by simp; omega) (fun e => by have := (hown.lt k e.symm).1; omega)
    exact h1.trans (((World.grownBy_alloc _ _ none).block k (by simp; omega) (by simp)).trans ((World.grownBy_alloc _ _ none).block k (by omega) (by simp)))
  have hsz4 : W.heap.size + 2 ≤ w4.heap.size := by have := hgrow.size; simp at this; omega
  have hp4 : At w4 b #[.int .i64 f, .int .i64 t, .int .i64 tl, .int .i64 pr, .int .i64 id, .int .i64 fr, .bool mo, .bool dn, .string op, .string da] := ⟨by omega, fun i u h => ⟨(World.cell?_of_block (a := ⟨b, i, none⟩) (hkeep b (by omega))).trans (hp.2 i u h).1, (World.frozen?_of_block (a := ⟨b, i, none⟩) (hkeep b (by omega))).trans (hp.2 i u h).2⟩⟩
  have hB4 : At w4 B #[v] := ⟨by omega, fun i u h => ⟨(World.cell?_of_block (a := ⟨B, i, none⟩) (hkeep B (by omega))).trans (hB.2 i u h).1, (World.frozen?_of_block (a := ⟨B, i, none⟩) (hkeep B (by omega))).trans (hB.2 i u h).2⟩⟩
  obtain ⟨g0, g1⟩ := hB4.2 0 v rfl
  have hgl := hB4.1
  clear hgrow hkeep hc9 hcB hq hi hz0 hz1 hz2
  have hnn : v' ≠ .slice none 0 0 := hnil
  obtain ⟨g, cap, rfl⟩ : ∃ g cap, v' = .slice (some ⟨g, 0, none⟩) (n + 1) cap := by
    rcases hown4.2 with ⟨h, _⟩ | ⟨g, cap, cur, h, _⟩
    · exact absurd h hnn
    · exact ⟨g, cap, h⟩
  clear hnil
  go_wp2
  refine bodyPost_end (v := .tuple #[]) (by simp [results, Try.results45, go_sem]) rfl ⟨.slice (some ⟨g, 0, none⟩) (n + 1) cap, rfl, hB1.setCell hB0 _, by simp [World.setCell]; omega, ?_, ?_, own_setCell hown4 B 0 _ hBR, hnn⟩
  · refine ⟨by simpa [World.setCell] using hp4.1, fun i u h => ⟨?_, ?_⟩⟩
    · rw [World.cell?_setCell_other]
      · exact (hp4.2 i u h).1
      · exact fun e => by have := congrArg Addr.block e; simp at this; omega
    · rw [World.frozen?_setCell]; exact (hp4.2 i u h).2
  · refine ⟨by simpa [World.setCell] using hB4.1, fun i u h => ⟨?_, ?_⟩⟩
    · have hi0 : i = 0 := by have := (Array.getElem?_eq_some_iff.1 h).1; simp at this; exact this
      subst hi0
      obtain rfl := Option.some.inj h
      rw [World.cell?_setCell_same _ _ _ g0]; rfl
    · rw [World.frozen?_setCell]
      have hi0 : i = 0 := by have := (Array.getElem?_eq_some_iff.1 h).1; simp at this; exact this
      subst hi0
      exact g1
end Go.Proofs.Ytcjhniehbafhpaa

namespace Go.Proofs.Ytcjhniehbafhpaa
open Go.RowKit
set_option maxRecDepth 100000

structure Pk where
  f : Int
  t : Int
  tl : Int
  pr : Int
  id : Int
  fr : Int
  mo : Bool
  dn : Bool
  op : ByteArray
  da : ByteArray
def Pk.L (p : Pk) : List Value := [.int .i64 p.f, .int .i64 p.t, .int .i64 p.tl, .int .i64 p.pr, .int .i64 p.id, .int .i64 p.fr, .bool p.mo, .bool p.dn, .string p.op, .string p.da]
theorem Pk.L_len (p : Pk) : p.L.length = 10 := rfl
def flatP (ps : List Pk) : List Value := ps.flatMap Pk.L
theorem flatP_snoc (ps : List Pk) (p : Pk) : flatP (ps ++ [p]) = flatP ps ++ p.L := by simp [flatP]
theorem flatP_len (ps : List Pk) : (flatP ps).length = ps.length * 10 := by
  induction ps with
  | nil => rfl
  | cons p ps ih =>
    have : flatP (p :: ps) = p.L ++ flatP ps := rfl
    rw [this, List.length_append, ih, Pk.L_len, List.length_cons]; omega
theorem flatP_at (ps : List Pk) (i j : Nat) (p : Pk) (hp : ps[i]? = some p) (hj : j < 10) : (flatP ps)[i * 10 + j]? = p.L[j]? := by
  induction ps generalizing i with
  | nil => simp at hp
  | cons q ps ih =>
    have e : flatP (q :: ps) = q.L ++ flatP ps := rfl
    rw [e]
    cases i with
    | zero =>
      simp only [List.getElem?_cons_zero, Option.some.injEq] at hp
      subst hp
      rw [Nat.zero_mul, Nat.zero_add, List.getElem?_append_left (by rw [Pk.L_len]; exact hj)]
    | succ i =>
      simp only [List.getElem?_cons_succ] at hp
      rw [List.getElem?_append_right (by rw [Pk.L_len]; omega), Pk.L_len, show (i + 1) * 10 + j - 10 = i * 10 + j by omega]
      exact ih i hp
def pieceN (p : Pk) (R k : Nat) : Pk := { p with fr := p.fr + ((k * R : Nat) : Int) / 8, mo := true, da := p.da.extract (k * R) ((k + 1) * R) }
def pieceZ (p : Pk) (R k : Nat) : Pk := { p with fr := p.fr + ((k * R : Nat) : Int) / 8, da := p.da.extract (k * R) p.da.size }
def firstP (p : Pk) (R k : Nat) : List Pk := (List.range k).map (pieceN p R)
def fullN (L R : Nat) : Nat := (L - 1) / R
def allP (p : Pk) (R : Nat) : List Pk := firstP p R (fullN p.da.size R) ++ [pieceZ p R (fullN p.da.size R)]
theorem firstP_succ (p : Pk) (R k : Nat) : firstP p R (k + 1) = firstP p R k ++ [pieceN p R k] := by simp [firstP, List.range_succ]
theorem firstP_len (p : Pk) (R k : Nat) : (firstP p R k).length = k := by simp [firstP]
theorem allP_len (p : Pk) (R : Nat) : (allP p R).length = fullN p.da.size R + 1 := by simp [allP, firstP_len]
theorem full_lt (L R k : Nat) (hR : 0 < R) (hL : 0 < L) : k < fullN L R ↔ (k + 1) * R < L := by
  unfold fullN
  rw [← Nat.succ_le_iff, Nat.le_div_iff_mul_le hR]
  show (k + 1) * R ≤ L - 1 ↔ _
  omega
theorem full_mul (L R : Nat) (hL : 0 < L) : fullN L R * R < L := by
  unfold fullN
  have := Nat.div_mul_le_self (L - 1) R
  omega
theorem own_mono {w : World} {base base' : Nat} {e : TypeId} {size n : Nat} {v : Value} {xs : List Value} (h : w.ownsRow base e size v n xs) (hb : base' ≤ base) : w.ownsRow base' e size v n xs := by
  refine ⟨h.1, ?_⟩
  rcases h.2 with h | ⟨g, cap, cur, hv, hg, rest⟩
  · exact .inl h
  · exact .inr ⟨g, cap, cur, hv, by omega, rest⟩
set_option maxRecDepth 100000 in
set_option maxHeartbeats 4000000 in
theorem cut_any (f t tl pr id fr : Int) (mo dn : Bool) (op da : ByteArray) (R : Nat) (w : World) (hR : 8 ≤ R) (hR2 : R ≤ 65535) (hd0 : 0 < da.size) (hd : (da.size : Int) ≤ 65535) (hf0 : 0 ≤ fr) (hf1 : fr ≤ 8191) :
    Calls Try.prog 32 #[.agg #[.int .i64 f, .int .i64 t, .int .i64 tl, .int .i64 pr, .int .i64 id, .int .i64 fr, .bool mo, .bool dn, .string op, .string da], .int .i64 (R : Int)] w fun e w' => ∃ v, e = .returned v ∧ Below w.heap.size w w' ∧ w'.ownsRow w.heap.size 32 10 v (allP ⟨f, t, tl, pr, id, fr, mo, dn, op, da⟩ R).length (flatP (allP ⟨f, t, tl, pr, id, fr, mo, dn, op, da⟩ R)) := by
  have hp := (At.box w #[.int .i64 f, .int .i64 t, .int .i64 tl, .int .i64 pr, .int .i64 id, .int .i64 fr, .bool mo, .bool dn, .string op, .string da] 32).later (bel1 _ (.cells #[.slice none 0 0] 36))
  have hB := At.box2 w (.cells #[.int .i64 f, .int .i64 t, .int .i64 tl, .int .i64 pr, .int .i64 id, .int .i64 fr, .bool mo, .bool dn, .string op, .string da] 32) #[.slice none 0 0] 36
  have hbel := bt (bel1 w (.cells #[.int .i64 f, .int .i64 t, .int .i64 tl, .int .i64 pr, .int .i64 id, .int .i64 fr, .bool mo, .bool dn, .string op, .string da] 32)) (bel1 _ (.cells #[.slice none 0 0] 36))
  have hN : ∀ k, k < fullN da.size R ↔ (k + 1) * R < da.size := fun k => full_lt da.size R k (by omega) hd0
  have hNm := full_mul da.size R hd0
  generalize hNe : fullN da.size R = N at *
  have HN : Hid (∀ k, k < N ↔ (k + 1) * R < da.size) := hN
  have HE : Hid (fullN da.size R = N) := hNe
  clear hN hNe
  have hNs : N ≤ 65535 := by
    apply Classical.byContradiction; intro h
    have h1 : N * 8 ≤ N * R := Nat.mul_le_mul_left N hR
    omega
  go_enter Try.func32, Try.ntmps32
  go_wp2_with fail
  have hst : Below w.heap.size w ((w.alloc (.cells #[.int .i64 f, .int .i64 t, .int .i64 tl, .int .i64 pr, .int .i64 id, .int .i64 fr, .bool mo, .bool dn, .string op, .string da] 32)).alloc (.cells #[.slice none 0 0] 36)) ∧ w.heap.size + 2 ≤ ((w.alloc (.cells #[.int .i64 f, .int .i64 t, .int .i64 tl, .int .i64 pr, .int .i64 id, .int .i64 fr, .bool mo, .bool dn, .string op, .string da] 32)).alloc (.cells #[.slice none 0 0] 36)).heap.size ∧ At ((w.alloc (.cells #[.int .i64 f, .int .i64 t, .int .i64 tl, .int .i64 pr, .int .i64 id, .int .i64 fr, .bool mo, .bool dn, .string op, .string da] 32)).alloc (.cells #[.slice none 0 0] 36)) w.heap.size #[.int .i64 f, .int .i64 t, .int .i64 tl, .int .i64 pr, .int .i64 id, .int .i64 fr, .bool mo, .bool dn, .string op, .string da] ∧ At ((w.alloc (.cells #[.int .i64 f, .int .i64 t, .int .i64 tl, .int .i64 pr, .int .i64 id, .int .i64 fr, .bool mo, .bool dn, .string op, .string da] 32)).alloc (.cells #[.slice none 0 0] 36)) (w.heap.size + 1) #[.slice none 0 0] := ⟨hbel, by simp, hp, hB⟩
  clear hbel hp hB
  go_loopw [7] (fun at_ W => ∃ (k : Nat) (v : Value), k ≤ N ∧ at_ = .int .i64 ((k * R : Nat) : Int) ∧ Below w.heap.size w W ∧ w.heap.size + 2 ≤ W.heap.size ∧ At W w.heap.size #[.int .i64 f, .int .i64 t, .int .i64 tl, .int .i64 pr, .int .i64 id, .int .i64 fr, .bool mo, .bool dn, .string op, .string da] ∧ At W (w.heap.size + 1) #[v] ∧ W.ownsRow (w.heap.size + 2) 32 10 v k (flatP (firstP ⟨f, t, tl, pr, id, fr, mo, dn, op, da⟩ R k))) (fun at_ _ => N * R - (intOf at_).toNat)
  case atStart =>
    exact ⟨0, .slice none 0 0, Nat.zero_le _, by simp, hst.1, hst.2.1, hst.2.2.1, hst.2.2.2, World.ownsRow_nil _ _ _ _⟩
  case round =>
    obtain ⟨k, v, hk, rfl, h1, h2, h3, h4, h5⟩ := hrel
    clear hst
    have hkm : k * R ≤ N * R := Nat.mul_le_mul_right R hk
    have c9 := (h3.2 9 _ rfl).1
    have c6 := (h3.2 6 _ rfl).1
    by_cases hlt : k < N
    · have hk1 := (HN.out k).1 hlt
      have e1 : (k + 1) * R = k * R + R := by rw [Nat.add_mul, Nat.one_mul]
      have hkN : (k + 1) * R ≤ N * R := Nat.mul_le_mul_right R hlt
      obtain ⟨A, hA⟩ : ∃ A, A = k * R := ⟨_, rfl⟩
      have HA : Hid (A = k * R) := hA
      rw [← hA]
      rw [e1] at hk1 hkN
      rw [← hA] at hk1 hkm hkN
      clear hA e1
      have g1 : (R : Int) < (da.size : Int) - (A : Int) := by omega
      have g2 : (A : Int) ≤ 65535 := by omega
      have g3 : (R : Int) ≤ 65535 := by omega
      go_wp2_with fail
      refine (gather_any f t tl pr id fr mo dn op da (A : Int) ((A : Int) + (R : Int)) true w wr w.heap.size w.heap.size (w.heap.size + 1) (w.heap.size + 2) k v _ (by omega) (by omega) (by omega) hd hf0 hf1 (by omega) h1 (Nat.le_refl _) (Nat.le_succ _) (by omega) (by omega) h2 h3 h4 h5).mono ?_
      rintro e w' ⟨v', rfl, n1, n2, n3, n4, n5, n6⟩
      go_wp2
      go_roundw
      case rel =>
        refine ⟨k + 1, v', hlt, ?_, n1, n2, n3, n4, ?_⟩
        · rw [Nat.add_mul, Nat.one_mul, ← HA.out]; go_num
        · rw [firstP_succ, flatP_snoc]
          have e3 : (pieceN ⟨f, t, tl, pr, id, fr, mo, dn, op, da⟩ R k).L = [.int .i64 f, .int .i64 t, .int .i64 tl, .int .i64 pr, .int .i64 id, .int .i64 (fr + (A : Int) / 8), .bool true, .bool dn, .string op, .string (da.extract (A : Int).toNat ((A : Int) + (R : Int)).toNat)] := by
            unfold pieceN Pk.L
            rw [Nat.add_mul, Nat.one_mul, ← HA.out]
            rfl
          rw [e3]
          exact n5
      case measure => simp [intOf]; omega
    · have hkN : k = N := by omega
      subst hkN
      have hnl : ¬ (k + 1) * R < da.size := fun h => hlt ((HN.out k).2 h)
      have e1 : (k + 1) * R = k * R + R := by rw [Nat.add_mul, Nat.one_mul]
      rw [e1] at hnl
      obtain ⟨A, hA⟩ : ∃ A, A = k * R := ⟨_, rfl⟩
      have HA : Hid (A = k * R) := hA
      rw [← hA]
      rw [← hA] at hnl hNm
      clear hA e1 hkm
      have g1 : ¬ (R : Int) < (da.size : Int) - (A : Int) := by omega
      have g2 : (A : Int) ≤ 65535 := by omega
      have g3 : (R : Int) ≤ 65535 := by omega
      go_wp2_with fail
      refine (gather_any f t tl pr id fr mo dn op da (A : Int) (da.size : Int) mo w wr w.heap.size w.heap.size (w.heap.size + 1) (w.heap.size + 2) k v _ (by omega) (by omega) (by omega) hd hf0 hf1 (by omega) h1 (Nat.le_refl _) (Nat.le_succ _) (by omega) (by omega) h2 h3 h4 h5).mono ?_
      rintro e w' ⟨v', rfl, n1, n2, n3, n4, n5, n6⟩
      have cB := (n4.2 0 v' rfl).1
      obtain ⟨g, cap, rfl⟩ : ∃ g cap, v' = .slice (some ⟨g, 0, none⟩) (k + 1) cap := by
        rcases n5.2 with ⟨h, _⟩ | ⟨g, cap, cur, h, _⟩
        · exact absurd h n6
        · exact ⟨g, cap, h⟩
      go_wp2
      go_ret
      refine ⟨_, rfl, n1, ?_⟩
      have e4 : (allP ⟨f, t, tl, pr, id, fr, mo, dn, op, da⟩ R).length = k + 1 := by rw [allP_len]; show fullN da.size R + 1 = _; rw [HE.out]
      have e5 : flatP (allP ⟨f, t, tl, pr, id, fr, mo, dn, op, da⟩ R) = flatP (firstP ⟨f, t, tl, pr, id, fr, mo, dn, op, da⟩ R k) ++ [.int .i64 f, .int .i64 t, .int .i64 tl, .int .i64 pr, .int .i64 id, .int .i64 (fr + (A : Int) / 8), .bool mo, .bool dn, .string op, .string (da.extract (A : Int).toNat (da.size : Int).toNat)] := by
        unfold allP
        rw [flatP_snoc]
        show flatP (firstP ⟨f, t, tl, pr, id, fr, mo, dn, op, da⟩ R (fullN da.size R)) ++ (pieceZ ⟨f, t, tl, pr, id, fr, mo, dn, op, da⟩ R (fullN da.size R)).L = _
        rw [HE.out]
        congr 1
        unfold pieceZ Pk.L
        rw [← HA.out]
        rfl
      rw [e4, e5]
      exact own_mono n5 (by omega)
end Go.Proofs.Ytcjhniehbafhpaa
