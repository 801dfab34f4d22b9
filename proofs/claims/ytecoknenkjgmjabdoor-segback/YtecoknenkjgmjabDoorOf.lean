/- The contracts of Same of package opts and of the document's, of copied, and of what they call: each returns just the value named here; nothing that was there turns. -/
import Derived.Test.YtecoknenkjgmjabDoorOe
import Derived.Test.YtecoknenkjgmjabDoorFacts
import Derived.Deep.QuietTactic
import Derived.BigQuiet
import Derived.WalkSmall
import Derived.Laws.StructEq
namespace Go.Proofs.YtecoknenkjgmjabDoor
open Go.RowKit
set_option maxRecDepth 100000

theorem yield_at {ops : Array Oper} {tmps : Array Value} {j d : Nat} {b : Bool} (hd : (ops[j]?).bind (·.dst) = some d) (h : tmps.getD d undef = .bool b) : yielded ops tmps j = some b := by
  unfold yielded
  rw [hd]
  rw [Array.getD_eq_getD_getElem?] at h
  cases hq : tmps[d]? with
  | none => rw [hq] at h; cases h
  | some v => rw [hq] at h; simp at h; subst h; simp [hq]
theorem yield_u {ops : Array Oper} {tmps : Array Value} {j d : Nat} (hd : (ops[j]?).bind (·.dst) = some d) (h : tmps.getD d undef = undef) : yielded ops tmps j = none := by
  unfold yielded
  rw [hd]
  rw [Array.getD_eq_getD_getElem?] at h
  cases hq : tmps[d]? with
  | none => simp [hq]
  | some v => rw [hq] at h; simp at h; subst h; simp [hq, undef]
theorem want_t {o : Oper} {ops : Array Oper} {tmps : Array Value} {j d : Nat} {b : Bool} (hg : o.guard = some (j, b)) (hd : (ops[j]?).bind (·.dst) = some d) (h : tmps.getD d undef = .bool b) : Region.wanted o (yielded ops tmps) = true := by
  unfold Region.wanted; rw [hg]; simp [yield_at hd h]
theorem want_f {o : Oper} {ops : Array Oper} {tmps : Array Value} {j d : Nat} {b b' : Bool} (hg : o.guard = some (j, b)) (hd : (ops[j]?).bind (·.dst) = some d) (h : tmps.getD d undef = .bool b') (hne : b' ≠ b) : Region.wanted o (yielded ops tmps) = false := by
  unfold Region.wanted; rw [hg]; simp [yield_at hd h, hne]
theorem want_u {o : Oper} {ops : Array Oper} {tmps : Array Value} {j d : Nat} {b : Bool} (hg : o.guard = some (j, b)) (hd : (ops[j]?).bind (·.dst) = some d) (h : tmps.getD d undef = undef) : Region.wanted o (yielded ops tmps) = false := by
  unfold Region.wanted; rw [hg]; simp [yield_u hd h]

theorem eq57 (a b c d a' b' c' d' : Int) (w : World) : (Op.equalIn 10000 89 (.agg #[.int .i64 a, .int .i64 b, .int .i64 c, .int .i64 d]) (.agg #[.int .i64 a', .int .i64 b', .int .i64 c', .int .i64 d'])).run Tryd.prog w = .ok (decide (a = a' ∧ b = b' ∧ c = c' ∧ d = d')) w := by
  have u3 := Tryd.underlying3
  have a3 := Tryd.isAgg3
  have z3 := Tryd.sizeOf3
  rw [show (10000 : Nat) = 9999 + 1 from rfl, Op.equalIn]
  simp only [Sem.run_bind, run_underlying Tryd.underlying89, Result.andThen_ok]
  simp only [Std.Legacy.Range.forIn_eq_forIn_range', Std.Legacy.Range.size, Nat.sub_zero, Nat.add_sub_cancel, Nat.div_one, List.range'_succ, List.range'_zero, List.forIn_cons, List.forIn_nil]
  go_simp
  by_cases h1 : a = a' <;> by_cases h2 : b = b' <;> by_cases h3 : c = c' <;> by_cases h4 : d = d' <;> simp [h1, h2, h3, h4]
theorem eq59 (a b c a' b' c' : Bool) (w : World) : (Op.equalIn 10000 91 (.agg #[.bool a, .bool b, .bool c]) (.agg #[.bool a', .bool b', .bool c'])).run Tryd.prog w = .ok (decide (a = a' ∧ b = b' ∧ c = c')) w := by
  have u3 := Tryd.underlying4
  have a3 := Tryd.isAgg4
  have z3 := Tryd.sizeOf4
  rw [show (10000 : Nat) = 9999 + 1 from rfl, Op.equalIn]
  simp only [Sem.run_bind, run_underlying Tryd.underlying91, Result.andThen_ok]
  simp only [Std.Legacy.Range.forIn_eq_forIn_range', Std.Legacy.Range.size, Nat.sub_zero, Nat.add_sub_cancel, Nat.div_one, List.range'_succ, List.range'_zero, List.forIn_cons, List.forIn_nil]
  go_simp
  cases a <;> cases b <;> cases c <;> cases a' <;> cases b' <;> cases c' <;> simp
theorem run_eq4 (a b c d a' b' c' d' : Int) (W : World) : (binOp .eql 89 (.agg #[.int .i64 a, .int .i64 b, .int .i64 c, .int .i64 d]) (.agg #[.int .i64 a', .int .i64 b', .int .i64 c', .int .i64 d'])).run Tryd.prog W = .ok (.bool (decide (a = a' ∧ b = b' ∧ c = c' ∧ d = d'))) W := by
  rw [run_eql_struct, eq57]; rfl
theorem run_eq3 (a b c a' b' c' : Bool) (W : World) : (binOp .eql 91 (.agg #[.bool a, .bool b, .bool c]) (.agg #[.bool a', .bool b', .bool c'])).run Tryd.prog W = .ok (.bool (decide (a = a' ∧ b = b' ∧ c = c'))) W := by
  rw [run_eql_struct, eq59]; rfl

def sameN (m c t ec m' c' t' ec' : Int) : Bool := decide (m = m' ∧ c = c' ∧ t = t' ∧ ec = ec')
def sameM (sd ok sp sd' ok' sp' : Bool) : Bool := decide (sd = sd' ∧ ok = ok' ∧ sp = sp')
def sameO (m c t ec : Int) (sd ok sp : Bool) (rs : List (Int × Int)) (m' c' t' ec' : Int) (sd' ok' sp' : Bool) (rs' : List (Int × Int)) : Bool := sameN m c t ec m' c' t' ec' && sameM sd ok sp sd' ok' sp' && decide (rs = rs')
theorem sameO_self (m c t ec : Int) (sd ok sp : Bool) (rs : List (Int × Int)) : sameO m c t ec sd ok sp rs m c t ec sd ok sp rs = true := by simp [sameO, sameN, sameM]
theorem sameO_eq {m c t ec : Int} {sd ok sp : Bool} {rs : List (Int × Int)} {m' c' t' ec' : Int} {sd' ok' sp' : Bool} {rs' : List (Int × Int)} (h : sameO m c t ec sd ok sp rs m' c' t' ec' sd' ok' sp' rs' = true) : m = m' ∧ c = c' ∧ t = t' ∧ ec = ec' ∧ sd = sd' ∧ ok = ok' ∧ sp = sp' ∧ rs = rs' := by
  simp only [sameO, sameN, sameM, Bool.and_eq_true, decide_eq_true_eq] at h
  obtain ⟨⟨⟨h1, h2, h3, h4⟩, h5, h6, h7⟩, h8⟩ := h
  exact ⟨h1, h2, h3, h4, h5, h6, h7, h8⟩

theorem numbers_any (m c t ec : Int) (sd ok sp : Bool) (v : Value) (w : World) : Calls Tryd.prog 69 #[.agg #[.int .i64 m, .int .i64 c, .int .i64 t, .int .i64 ec, .bool sd, .bool ok, .bool sp, v]] w fun e w' => e = .returned (.agg #[.int .i64 m, .int .i64 c, .int .i64 t, .int .i64 ec]) ∧ Below w.heap.size w w' := by
  obtain ⟨⟨c0, c1, c2, c3, c4, c5, c6, c7⟩, -, -⟩ := (At.box w #[.int .i64 m, .int .i64 c, .int .i64 t, .int .i64 ec, .bool sd, .bool ok, .bool sp, v] 26).eight
  go_enter Tryd.func69, Tryd.ntmps69
  go_wp2
  exact bodyPost_ret (v := .agg #[.int .i64 m, .int .i64 c, .int .i64 t, .int .i64 ec]) (by simp [results, Tryd.results69, go_sem]) rfl ⟨rfl, bt (bel1 _ _) (bel1 _ _)⟩
theorem marks_any (m c t ec : Int) (sd ok sp : Bool) (v : Value) (w : World) : Calls Tryd.prog 70 #[.agg #[.int .i64 m, .int .i64 c, .int .i64 t, .int .i64 ec, .bool sd, .bool ok, .bool sp, v]] w fun e w' => e = .returned (.agg #[.bool sd, .bool ok, .bool sp]) ∧ Below w.heap.size w w' := by
  obtain ⟨⟨c0, c1, c2, c3, c4, c5, c6, c7⟩, -, -⟩ := (At.box w #[.int .i64 m, .int .i64 c, .int .i64 t, .int .i64 ec, .bool sd, .bool ok, .bool sp, v] 26).eight
  go_enter Tryd.func70, Tryd.ntmps70
  go_wp2
  exact bodyPost_ret (v := .agg #[.bool sd, .bool ok, .bool sp]) (by simp [results, Tryd.results70, go_sem]) rfl ⟨rfl, bt (bel1 _ _) (bel1 _ _)⟩

theorem take_same (rs rs' : List (Int × Int)) (k : Nat) (r : Int × Int) (h : rs[k]? = some r) (h' : rs'[k]? = some r) (ht : rs.take k = rs'.take k) : rs.take (k + 1) = rs'.take (k + 1) := by
  obtain ⟨hk, e⟩ := List.getElem?_eq_some_iff.1 h
  obtain ⟨hk', e'⟩ := List.getElem?_eq_some_iff.1 h'
  rw [List.take_succ_eq_append_getElem hk, List.take_succ_eq_append_getElem hk', ht, e, e']
theorem take_other (rs rs' : List (Int × Int)) (k : Nat) (r r' : Int × Int) (h : rs[k]? = some r) (h' : rs'[k]? = some r') (hne : r ≠ r') : decide (rs = rs') = false := by
  apply decide_eq_false
  intro e
  subst e
  exact hne (Option.some.inj (h.symm.trans h'))
set_option maxRecDepth 100000 in
set_option maxHeartbeats 2000000 in
theorem equal_any (v v' : Value) (rs rs' : List (Int × Int)) (w : World) (hv : Rgs w v rs) (hv' : Rgs w v' rs') (hn : rs.length ≤ 17592186044416) (hn' : rs'.length ≤ 17592186044416) :
    Calls Tryd.prog 71 #[v, v'] w fun e w' => e = .returned (.bool (decide (rs = rs'))) ∧ Below w.heap.size w w' := by
  obtain ⟨a, cap, rfl, hc, h⟩ := hv
  obtain ⟨a', cap', rfl, hc', h'⟩ := hv'
  have hni : (rs.length : Int) ≤ 17592186044416 := by omega
  have hni' : (rs'.length : Int) ≤ 17592186044416 := by omega
  by_cases hlen : rs.length = rs'.length
  · have HX : Hid (rs = [] ∨ ∃ b off, a = some ⟨b, off, none⟩ ∧ ∀ j r, rs[j]? = some r → w.cell? ⟨b, off + j * 2, none⟩ = some (.int .i64 r.1) ∧ w.cell? ⟨b, off + j * 2 + 1, none⟩ = some (.int .i64 r.2)) := h
    have HY : Hid (rs' = [] ∨ ∃ b off, a' = some ⟨b, off, none⟩ ∧ ∀ j r, rs'[j]? = some r → w.cell? ⟨b, off + j * 2, none⟩ = some (.int .i64 r.1) ∧ w.cell? ⟨b, off + j * 2 + 1, none⟩ = some (.int .i64 r.2)) := h'
    clear h h'
    have hleni : ((rs.length : Int) != (rs'.length : Int)) = false := by simp; omega
    have hleq : (rs.length : Int) = (rs'.length : Int) := by omega
    have HLEN : Hid (rs.length = rs'.length) := hlen
    go_enter Tryd.func71, Tryd.ntmps71
    clear hlen hleq
    go_wp2
    have hlen := HLEN.out
    go_loopw [13] (fun i W => ∃ k : Nat, k ≤ rs.length ∧ i = .int .i64 k ∧ rs.take k = rs'.take k ∧ Below w.heap.size w W) (fun i _ => rs.length - (intOf i).toNat)
    case atStart => exact ⟨0, Nat.zero_le _, rfl, by simp, Below.refl _ _⟩
    case round =>
      obtain ⟨k, hk, rfl, heq, hbl⟩ := hrel
      by_cases hlt : k < rs.length
      · obtain ⟨r, hr⟩ : ∃ r, rs[k]? = some r := ⟨rs[k], List.getElem?_eq_getElem hlt⟩
        obtain ⟨r', hr'⟩ : ∃ r', rs'[k]? = some r' := ⟨rs'[k]'(by omega), List.getElem?_eq_getElem (by omega)⟩
        have HE : Hid (rs.take k = rs'.take k) := heq
        have HR : Hid (rs[k]? = some r) := hr
        have HR' : Hid (rs'[k]? = some r') := hr'
        obtain ⟨b, off, rfl, x1, x2⟩ : ∃ b off, a = some ⟨b, off, none⟩ ∧ w.cell? ⟨b, off + k * 2, none⟩ = some (.int .i64 r.1) ∧ w.cell? ⟨b, off + k * 2 + 1, none⟩ = some (.int .i64 r.2) := by
          rcases HX.out with h | ⟨b, off, h, hx⟩
          · rw [h] at hr; simp at hr
          · exact ⟨b, off, h, hx k r hr⟩
        obtain ⟨b', off', rfl, y1, y2⟩ : ∃ b off, a' = some ⟨b, off, none⟩ ∧ w.cell? ⟨b, off + k * 2, none⟩ = some (.int .i64 r'.1) ∧ w.cell? ⟨b, off + k * 2 + 1, none⟩ = some (.int .i64 r'.2) := by
          rcases HY.out with h | ⟨b, off, h, hx⟩
          · rw [h] at hr'; simp at hr'
          · exact ⟨b, off, h, hx k r' hr'⟩
        replace x1 := later hbl x1
        replace x2 := later hbl x2
        replace y1 := later hbl y1
        replace y2 := later hbl y2
        clear HX HY hr hr' heq
        have l0 : (0 : Int) ≤ (k : Int) := by omega
        have l1 : (k : Int) < (rs.length : Int) := by omega
        have l2 : (k : Int) < (rs'.length : Int) := by omega
        obtain ⟨X, Y⟩ := r
        obtain ⟨X', Y'⟩ := r'
        simp only at x1 x2 y1 y2
        by_cases h1 : X = X'
        · subst h1
          by_cases h2 : Y = Y'
          · subst h2
            go_wp2
            go_quiet (fail)
            have hbl2 := below_drewN hbl nq
            go_wp2
            go_roundw
            case rel => exact ⟨k + 1, by omega, by go_num, take_same rs rs' k _ HR.out HR'.out HE.out, hbl2⟩
            case measure => simp [intOf]; omega
          · have HD : Hid (decide (rs = rs') = false) := take_other rs rs' k _ _ HR.out HR'.out (by intro e; cases e; exact h2 rfl)
            go_wp2
            go_quiet (fail)
            have hbl2 := below_drewN hbl nq
            go_wp2
            go_ret
            exact ⟨by rw [HD.out]; rfl, hbl2⟩
        · have HD : Hid (decide (rs = rs') = false) := take_other rs rs' k _ _ HR.out HR'.out (by intro e; cases e; exact h1 rfl)
          go_wp2
          go_quiet (fail)
          have hbl2 := below_drewN hbl nq
          go_wp2
          go_ret
          exact ⟨by rw [HD.out]; rfl, hbl2⟩
      · have hk' : k = rs.length := by omega
        subst hk'
        have HE : Hid (decide (rs = rs') = true) := decide_eq_true (by rw [List.take_length, List.take_of_length_le (by omega)] at heq; exact heq)
        clear heq
        go_wp2
        go_ret
        exact ⟨by rw [HE.out]; rfl, hbl⟩
  · have hleni : ((rs.length : Int) != (rs'.length : Int)) = true := by simp; omega
    have HD : Hid (decide (rs = rs') = false) := decide_eq_false (by intro e; rw [e] at hlen; exact hlen rfl)
    clear h h' hlen
    go_enter Tryd.func71, Tryd.ntmps71
    go_wp2
    go_ret
    exact ⟨by rw [HD.out]; rfl, Below.refl _ _⟩
end Go.Proofs.YtecoknenkjgmjabDoor
