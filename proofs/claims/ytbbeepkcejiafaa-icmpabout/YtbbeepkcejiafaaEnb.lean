/- The contracts of Encode of package ip, and of the chapter's example: each returns just the values named here; nothing that was there turns. -/
import Derived.Test.YtbbeepkcejiafaaEnc
import Derived.Test.YtbbeepkcejiafaaChk
namespace Go.Proofs.Ytbbeepkcejiafaa
open Go.RowKit

theorem encP_le {f t tl pr id fr : Int} {mo dn : Bool} {op da : ByteArray} (h : mayP f t tl pr id fr mo op.size da.size = true) : (encP f t tl pr id fr mo dn op da).size ≤ 65535 := by
  rw [encP_size]; have := mayP_q h; obtain ⟨-, -, -, -, -, -, -, -, -, hz, -⟩ := this; exact hz
set_option maxRecDepth 100000 in
set_option maxHeartbeats 1000000 in
theorem enc_y {f t tl pr id fr : Int} {mo dn : Bool} {op da : ByteArray} (h : mayP f t tl pr id fr mo op.size da.size = true) (w : World) :
    Calls Try.prog 23 #[.agg #[.int .i64 f, .int .i64 t, .int .i64 tl, .int .i64 pr, .int .i64 id, .int .i64 fr, .bool mo, .bool dn, .string op, .string da]] w fun e w' => e = .returned (.tuple #[.string (encP f t tl pr id fr mo dn op da), .int .i64 0]) ∧ Below w.heap.size w w' := by
  have hA := At.box w #[.int .i64 f, .int .i64 t, .int .i64 tl, .int .i64 pr, .int .i64 id, .int .i64 fr, .bool mo, .bool dn, .string op, .string da] 35
  have hl := bel1 w (.cells #[.int .i64 f, .int .i64 t, .int .i64 tl, .int .i64 pr, .int .i64 id, .int .i64 fr, .bool mo, .bool dn, .string op, .string da] 35)
  obtain ⟨-, -, -, -, -, -, -, o40, -, hz, -⟩ := mayP_q h
  have ho : op.size ≤ 1125899906842624 := by omega
  have hd : da.size ≤ 1125899906842624 := by omega
  have hhd := fun W => hdr_y (dn := dn) h W
  have hz1 : (sealS (headP f t tl pr id fr mo dn op da) 10).size = 20 + op.size := by rw [sealS_size _ _ (by decide) (by rw [headP_size]; omega), headP_size]
  unfold encP
  generalize sealS (headP f t tl pr id fr mo dn op da) 10 = B at *
  have r1 : ∀ W, (Op.stringOp .add B da).run Try.prog W = .ok (.string (B ++ da)) W := fun W => run_string_add_sum W _ _ (by omega)
  clear hz1 hz o40
  go_enter Try.func23, Try.ntmps23
  go_wp2_with fail
  refine (mp_t h _ ho hd).mono ?_
  rintro e w1 ⟨rfl, hb⟩
  have hl := bt hl hb
  obtain ⟨hx, -, -⟩ := (hA.later hb).ten
  have hx5 := And.intro hl hx
  clear hA hb hl hx
  go_wp2
  go_region_held3 (fun W => Below w.heap.size w W ∧ W.cell? ⟨w.heap.size, 0, none⟩ = some (.int .i64 f) ∧ W.cell? ⟨w.heap.size, 1, none⟩ = some (.int .i64 t) ∧ W.cell? ⟨w.heap.size, 2, none⟩ = some (.int .i64 tl) ∧ W.cell? ⟨w.heap.size, 3, none⟩ = some (.int .i64 pr) ∧ W.cell? ⟨w.heap.size, 4, none⟩ = some (.int .i64 id) ∧ W.cell? ⟨w.heap.size, 5, none⟩ = some (.int .i64 fr) ∧ W.cell? ⟨w.heap.size, 6, none⟩ = some (.bool mo) ∧ W.cell? ⟨w.heap.size, 7, none⟩ = some (.bool dn) ∧ W.cell? ⟨w.heap.size, 8, none⟩ = some (.string op) ∧ W.cell? ⟨w.heap.size, 9, none⟩ = some (.string da)) (first | exact ⟨hx5.1.drew, hx5.2⟩ | (refine keep10 hb ?_; assumption)) (first | (go_at_call 38; refine (hhd _).mono ?_; rintro e w' ⟨rfl, hb⟩))
  all_goals
    rename_i hq
    go_wp2
    go_ret2
    exact ⟨rfl, hq.1⟩
theorem enc_n {f t tl pr id fr : Int} {mo dn : Bool} {op da : ByteArray} (h : mayP f t tl pr id fr mo op.size da.size = false) (w : World) (ho : op.size ≤ 1125899906842624) (hd : da.size ≤ 1125899906842624) :
    Calls Try.prog 23 #[.agg #[.int .i64 f, .int .i64 t, .int .i64 tl, .int .i64 pr, .int .i64 id, .int .i64 fr, .bool mo, .bool dn, .string op, .string da]] w fun e w' => e = .returned (.tuple #[.string ⟨#[]⟩, .int .i64 50]) ∧ Below w.heap.size w w' := by
  have hl := bel1 w (.cells #[.int .i64 f, .int .i64 t, .int .i64 tl, .int .i64 pr, .int .i64 id, .int .i64 fr, .bool mo, .bool dn, .string op, .string da] 35)
  go_enter Try.func23, Try.ntmps23
  go_wp2_with fail
  refine (mp_f h _ ho hd).mono ?_
  rintro e w1 ⟨rfl, hb⟩
  have hl := bt hl hb
  go_wp2
  go_ret2
  exact ⟨rfl, hl⟩
theorem ex_is : encP 10 11 64 6 0 0 false false ⟨#[]⟩ ⟨#[97, 98]⟩ = ⟨#[69, 0, 0, 22, 0, 0, 0, 0, 64, 6, 122, 206, 0, 0, 0, 10, 0, 0, 0, 11, 97, 98]⟩ := by decide +kernel
theorem ex_may : mayP 10 11 64 6 0 0 false (⟨#[]⟩ : ByteArray).size (⟨#[97, 98]⟩ : ByteArray).size = true := by decide +kernel
theorem enc_ex (w : World) :
    Calls Try.prog 23 #[.agg #[.int .i64 10, .int .i64 11, .int .i64 64, .int .i64 6, .int .i64 0, .int .i64 0, .bool false, .bool false, .string ⟨#[]⟩, .string ⟨#[97, 98]⟩]] w fun e w' => e = .returned (.tuple #[.string ⟨#[69, 0, 0, 22, 0, 0, 0, 0, 64, 6, 122, 206, 0, 0, 0, 10, 0, 0, 0, 11, 97, 98]⟩, .int .i64 0]) ∧ Below w.heap.size w w' := by
  have := enc_y (dn := false) ex_may w
  rw [ex_is] at this
  exact this
theorem ex_a : ((⟨#[69, 0, 0, 22, 0, 0, 0, 0, 64, 6, 122, 206, 0, 0, 0, 10, 0, 0, 0, 11, 97, 98]⟩ : ByteArray).extract 0 10).toList = [69, 0, 0, 22, 0, 0, 0, 0, 64, 6] := by decide +kernel
theorem ex_b : ((⟨#[69, 0, 0, 22, 0, 0, 0, 0, 64, 6, 122, 206, 0, 0, 0, 10, 0, 0, 0, 11, 97, 98]⟩ : ByteArray).extract 12 22).toList = [0, 0, 0, 10, 0, 0, 0, 11, 97, 98] := by decide +kernel
end Go.Proofs.Ytbbeepkcejiafaa
