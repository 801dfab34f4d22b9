/- A struct of numbers, strings and bools, nested or not, that came in is a row of such cells; and a slice of such structs. -/
import Derived.WalkKit
import Derived.ProofKit
import Derived.OpenShut
import Derived.ShutString
import Derived.ChangeOld
import Derived.Below
import Derived.Carry
import Derived.SizedLaws
import Derived.ChangeSlices
import Derived.Deep.Slices
namespace Go.Proofs.Ytgjkplkghoeeeaa.Flat
open Go.ChangeShapes Go.WideShapes Go.ChangeAt Go.RowKit
set_option linter.unusedVariables false

inductive Kd where
  | i | s | b
def Kd.ok : Kd → Value → Prop
  | .i, v => ∃ z : Int, v = .int .i64 z ∧ (Lit.int .i64 z).wf = true
  | .s, v => ∃ a : ByteArray, v = .string a ∧ a.size ≤ 140737488351232
  | .b, v => ∃ c : Bool, v = .bool c
/-- These cells are of these kinds. -/
def Ok (ks : List Kd) (cs : List Value) : Prop := cs.length = ks.length ∧ ∀ (i : Nat) (k : Kd) (v : Value), ks[i]? = some k → cs[i]? = some v → k.ok v
theorem Ok.append {ks ls : List Kd} {cs ds : List Value} (h : Ok ks cs) (k : Ok ls ds) : Ok (ks ++ ls) (cs ++ ds) := by
  refine ⟨by simp [h.1, k.1], fun i x v hx hv => ?_⟩
  by_cases hi : i < ks.length
  · rw [List.getElem?_append_left hi] at hx
    rw [List.getElem?_append_left (by rw [h.1]; exact hi)] at hv
    exact h.2 i x v hx hv
  · rw [List.getElem?_append_right (by omega)] at hx
    rw [List.getElem?_append_right (by rw [h.1]; omega)] at hv
    rw [h.1] at hv
    exact k.2 _ x v hx hv
def fieldsK (P : Program) (go : TypeId → Option (List Kd)) : Nat → List Field → Option (List Kd)
  | _, [] => some []
  | off, f :: r => if f.offset = off then match go f.type with
    | some ks => if P.cellsOf f.type = ks.length then (fieldsK P go (off + ks.length) r).map (ks ++ ·) else none
    | none => none else none
def kindsOf (P : Program) : Nat → TypeId → Option (List Kd)
  | 0, _ => none
  | n + 1, t => match P.underlying t with
    | some (.int .i64) => some [.i]
    | some .string => some [.s]
    | some .bool => some [.b]
    | some (.struct fs) => match fieldsK P (kindsOf P n) 0 fs.toList with
      | some ks => if P.cellsOf t = ks.length then some ks else none
      | none => none
    | _ => none
section
variable {H : Type} {enc : TypeId × Value → H} {P : Program} {w : World} {base : Nat} {spare : Nat → Bool} {held : Bool}
theorem fields_open {m : Nat} {go : TypeId → Option (List Kd)} {fs : List Field} {xs : List (DataW H × List MemPlace)} {cs : List Value}
    (hgo : ∀ t ks cs x, go t = some ks → DataW.trod enc P w base spare held m t cs = some x → (x.1.weights P t).all (· ≤ reachBytes) = true → Ok ks cs) :
    ∀ (off : Nat) (ks : List Kd), fieldsK P go off fs = some ks → xs.length = fs.length → (∀ (i : Nat) (f : Field), fs[i]? = some f → DataW.trod enc P w base spare held m f.type ((cs.drop f.offset).take (P.cellsOf f.type)) = xs[i]?) → (DataW.weightsEach P (fs.map (·.type)) (xs.map (·.1))).all (· ≤ reachBytes) = true → Ok ks ((cs.drop off).take ks.length) ∧ (ks.length = 0 ∨ off + ks.length ≤ cs.length) := by
  induction fs generalizing xs with
  | nil =>
    intro off ks h _ _ _
    simp [fieldsK] at h
    subst h
    exact ⟨⟨rfl, fun i k v hk => by simp at hk⟩, Or.inl rfl⟩
  | cons f r ih =>
    intro off ks h hl hx hw
    unfold fieldsK at h
    split at h
    · rename_i ho
      split at h
      · rename_i k1 hk1
        split at h
        · rename_i hc
          obtain ⟨k2, hk2, rfl⟩ := Option.map_eq_some_iff.1 h
          match xs, hl with
          | x :: ys, hl =>
            have h0 := hx 0 f rfl
            rw [ho, hc] at h0
            simp only [List.getElem?_cons_zero] at h0
            simp only [List.map_cons, DataW.weightsEach, List.all_append, Bool.and_eq_true] at hw
            have o1 := hgo f.type k1 _ x hk1 h0 hw.1
            obtain ⟨o2, l2⟩ := ih (xs := ys) (off + k1.length) k2 hk2 (by simpa using hl) (fun i g hg => by have := hx (i + 1) g (by simpa using hg); simpa using this) hw.2
            have hl1 := o1.1
            rw [List.length_take, List.length_drop] at hl1
            refine ⟨?_, ?_⟩
            · have := o1.append o2
              rw [List.length_append]
              rw [show ((cs.drop off).take (k1.length + k2.length)) = (cs.drop off).take k1.length ++ (cs.drop (off + k1.length)).take k2.length by rw [List.take_add, List.drop_drop]]
              exact this
            · rw [List.length_append]
              have hl2 := o2.1
              rw [List.length_take, List.length_drop] at hl2
              by_cases e : k1.length + k2.length = 0
              · exact Or.inl e
              · right
                omega
        · cases h
      · cases h
    · cases h
theorem flat_open : ∀ (n : Nat) (t : TypeId) (ks : List Kd) (fuel : Nat) (cs : List Value) (x : DataW H × List MemPlace), kindsOf P n t = some ks → DataW.trod enc P w base spare held fuel t cs = some x → (x.1.weights P t).all (· ≤ reachBytes) = true → Ok ks cs
  | 0, t, ks, fuel, cs, x, h, _, _ => by simp [kindsOf] at h
  | n + 1, t, ks, fuel, cs, x, h, ht, hw => by
    unfold kindsOf at h
    split at h
    · rename_i hu
      cases h
      obtain ⟨z, rfl, -, hz⟩ := DataW.trod_int hu ht
      exact ⟨rfl, fun i k v hk hv => by
        match i, hk, hv with
        | 0, hk, hv => cases hk; cases hv; exact ⟨z, rfl, hz⟩⟩
    · rename_i hu
      cases h
      obtain ⟨z, rfl, hx, hz⟩ := DataW.trod_string hu ht
      subst hx
      have hs : z.size ≤ 140737488351232 := by
        simp [DataW.weights, reachBytes] at hw
        exact of_decide_eq_true hw
      exact ⟨rfl, fun i k v hk hv => by
        match i, hk, hv with
        | 0, hk, hv => cases hk; cases hv; exact ⟨z, rfl, hs⟩⟩
    · rename_i hu
      cases h
      obtain ⟨z, rfl, -⟩ := DataW.trod_bool hu ht
      exact ⟨rfl, fun i k v hk hv => by
        match i, hk, hv with
        | 0, hk, hv => cases hk; cases hv; exact ⟨z, rfl⟩⟩
    · rename_i fs hu
      cases hks : fieldsK P (kindsOf P n) 0 fs.toList with
      | none => rw [hks] at h; cases h
      | some ks' =>
        rw [hks] at h
        simp only at h
        have hc : P.cellsOf t = ks'.length := by
          by_cases hc : P.cellsOf t = ks'.length
          · exact hc
          · rw [if_neg hc] at h; cases h
        rw [if_pos hc] at h
        cases h
        obtain ⟨xs, m, rfl, rfl, hl, hlen, hfs⟩ := DataW.trod_struct hu ht
        have hw' : (DataW.weightsEach P (fs.toList.map (·.type)) (xs.map (·.1))).all (· ≤ reachBytes) = true := by simpa only [DataW.weights, hu] using hw
        obtain ⟨o1, -⟩ := fields_open (cs := cs) (xs := xs) (fs := fs.toList) (m := m) (go := kindsOf P n) (fun t ks cs x h1 h2 h3 => flat_open n t ks m cs x h1 h2 h3) 0 ks hks (by simpa using hlen) (fun i f hf => hfs i f (by simpa using hf)) hw'
        rw [List.drop_zero, List.take_of_length_le (by omega)] at o1
        exact o1
    · cases h
theorem mem_all {e : TypeId} : ∀ {ds : List (DataW H)} {d : DataW H}, d ∈ ds → ∀ n ∈ d.weights P e, n ∈ DataW.weightsAll P e ds
  | d0 :: ds, d, hd, n, hn => by
    simp only [DataW.weightsAll, List.mem_append]
    rcases List.mem_cons.1 hd with rfl | hd
    · exact Or.inl hn
    · exact Or.inr (mem_all hd n hn)
/-- n structs of C cells of these kinds lie one behind the other. -/
def Rows (w : World) (a : Option Addr) (n C : Nat) (ks : List Kd) : Prop :=
  n = 0 ∨ ∃ b off, a = some ⟨b, off, none⟩ ∧ ∀ k, k < n → ∃ cs : List Value, Ok ks cs ∧ ∀ j v, cs[j]? = some v → w.cell? ⟨b, off + k * C + j, none⟩ = some v
theorem Rows.later {w x : World} {a : Option Addr} {n C : Nat} {ks : List Kd} (h : Rows w a n C ks) (hb : Below w.heap.size w x) : Rows x a n C ks := by
  rcases h with h | ⟨b, off, ha, h⟩
  · exact Or.inl h
  · refine Or.inr ⟨b, off, ha, fun k hk => ?_⟩
    obtain ⟨cs, ho, hc⟩ := h k hk
    exact ⟨cs, ho, fun j v hv => (hb.cell (World.block_lt_of_cell? _ _ (hc j v hv))).trans (hc j v hv)⟩
theorem rows_open {t e : TypeId} {fuel n : Nat} {c : Value} {x : DataW H × List MemPlace} {ks : List Kd} {a : Option Addr} {len cap : Nat} (hc : c = .slice a len cap) (ht : P.underlying t = some (.slice e)) (hk : kindsOf P n e = some ks) (hn : ks ≠ []) (hC : P.cellsOf e = ks.length)
    (h : DataW.trod enc P w base spare held fuel t [c] = some x) (hw : (x.1.weights P t).all (· ≤ reachBytes) = true) :
    Rows w a len ks.length ks ∧ len * P.bytesOf e ≤ 140737488351232 := by
  subst hc
  rcases Go.Deep.open_slice ht h with ⟨hcs, hx⟩ | ⟨y, l, c, m, f, D, Pl, hcs, -, hl, -, hm, hx, hcell⟩
  · simp at hcs
    obtain ⟨rfl, rfl, rfl⟩ := hcs
    exact ⟨Or.inl rfl, by simp⟩
  · simp at hcs
    obtain ⟨rfl, rfl, rfl⟩ := hcs
    have hlm : len ≤ m := by rw [hm]; split <;> omega
    rw [hx] at hw
    simp only [DataW.weights, ht, List.all_cons, List.all_append, Bool.and_eq_true] at hw
    obtain ⟨w1, w2, -⟩ := hw
    have w1' := of_decide_eq_true w1
    simp only [List.length_map, List.length_range, reachBytes] at w1'
    have hsz : len * P.bytesOf e ≤ 140737488351232 := Nat.le_trans (Nat.mul_le_mul_right _ (by omega)) w1'
    refine ⟨?_, hsz⟩
    by_cases h0 : len = 0
    · exact Or.inl h0
    right
    have each : ∀ k, k < len → ∃ cs, Ok ks cs ∧ ∀ j v, cs[j]? = some v → w.cell? (y.add (k * ks.length + j)) = some v := by
      intro k hk'
      obtain ⟨cs', h1, h2⟩ := hcell k (by omega)
      rw [hC] at h1
      obtain ⟨-, hlen, hc⟩ := World.cells?_some h1
      refine ⟨cs', flat_open n e ks f cs' (D k, Pl k) hk h2 (List.all_eq_true.2 fun z hz => ?_), fun j v hv => ?_⟩
      · exact List.all_eq_true.1 w2 z (mem_all (List.mem_map.2 ⟨k, by simpa using hk', rfl⟩) z hz)
      · have hj : j < ks.length := by rw [← hlen]; exact (List.getElem?_eq_some_iff.1 hv).1
        have := hc j hj
        rw [Addr.add_add, hv] at this
        exact this
    obtain ⟨b, off, spot⟩ := y
    have hs : spot = none := by
      obtain ⟨cs, ho, hc⟩ := each 0 (by omega)
      have hl0 : 0 < cs.length := by
        rw [ho.1]
        exact List.length_pos_iff.2 hn
      have := hc 0 _ (List.getElem?_eq_getElem hl0)
      rw [Nat.zero_mul, Nat.zero_add] at this
      have e : (⟨b, off, spot⟩ : Addr).add 0 = ⟨b, off, spot⟩ := by simp [Addr.add]
      rw [e] at this
      unfold World.cell? at this
      cases spot with
      | none => rfl
      | some s =>
        exfalso
        revert this
        simp only
        split <;> simp
    subst hs
    refine ⟨b, off, rfl, fun k hk' => ?_⟩
    obtain ⟨cs, ho, hc⟩ := each k hk'
    refine ⟨cs, ho, fun j v hv => ?_⟩
    have := hc j v hv
    rw [Addr.add_lit, ← Nat.add_assoc] at this
    exact this
end
end Go.Proofs.Ytgjkplkghoeeeaa.Flat
