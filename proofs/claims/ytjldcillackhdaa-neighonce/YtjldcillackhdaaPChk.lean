/- The contracts of the document's Check and Whole of IP packets, and of package ip's Check, Whole and Hop: each returns just the values named here; nothing that was there turns. -/
import Derived.Test.YtjldcillackhdaaPPks
namespace Go.Proofs.Ytjldcillackhdaa.Ip
open Go.RowKit
set_option maxRecDepth 100000

theorem codeP_no {b : Bool} (h : b = false) : 50 = codeP b := by rw [h]; rfl
theorem codeP_yes {b : Bool} (h : b = true) : 0 = codeP b := by rw [h]; rfl
theorem fit_no {n m : Int} (h : fitB n m = false) : n < 0 ∨ 0 ≤ n ∧ m < n := by have := of_decide_eq_false h; omega
theorem fit_yes {n m : Int} (h : fitB n m = true) : 0 ≤ n ∧ n ≤ m := of_decide_eq_true h

theorem chk_t {f t tl pr id fr : Int} {mo dn : Bool} {op da : ByteArray} (h : mayP f t tl pr id fr mo op.size da.size = true) (w : World) (ho : op.size ≤ 1125899906842624) (hd : da.size ≤ 1125899906842624) : Calls Try.prog 11 #[.agg #[.int .i64 f, .int .i64 t, .int .i64 tl, .int .i64 pr, .int .i64 id, .int .i64 fr, .bool mo, .bool dn, .string op, .string da]] w fun e w' => e = .returned (.int .i64 0) ∧ Below w.heap.size w w' := by
  have hl := bel1 w (.cells #[.int .i64 f, .int .i64 t, .int .i64 tl, .int .i64 pr, .int .i64 id, .int .i64 fr, .bool mo, .bool dn, .string op, .string da] 29)
  go_enter Try.func11, Try.ntmps11
  go_wp2_with fail
  refine (mp_t h _ ho hd).mono ?_
  rintro e w1 ⟨rfl, hb⟩
  go_wp2
  go_ret
  exact ⟨rfl, bt hl hb⟩
theorem chk_f {f t tl pr id fr : Int} {mo dn : Bool} {op da : ByteArray} (h : mayP f t tl pr id fr mo op.size da.size = false) (w : World) (ho : op.size ≤ 1125899906842624) (hd : da.size ≤ 1125899906842624) : Calls Try.prog 11 #[.agg #[.int .i64 f, .int .i64 t, .int .i64 tl, .int .i64 pr, .int .i64 id, .int .i64 fr, .bool mo, .bool dn, .string op, .string da]] w fun e w' => e = .returned (.int .i64 50) ∧ Below w.heap.size w w' := by
  have hl := bel1 w (.cells #[.int .i64 f, .int .i64 t, .int .i64 tl, .int .i64 pr, .int .i64 id, .int .i64 fr, .bool mo, .bool dn, .string op, .string da] 29)
  go_enter Try.func11, Try.ntmps11
  go_wp2_with fail
  refine (mp_f h _ ho hd).mono ?_
  rintro e w1 ⟨rfl, hb⟩
  go_wp2
  go_ret
  exact ⟨rfl, bt hl hb⟩
def wholeB (fr : Int) (mo : Bool) : Bool := decide (fr = 0) && !mo
end Go.Proofs.Ytjldcillackhdaa.Ip
