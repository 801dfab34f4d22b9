/- The contract of the document's Check of ARP packets: it returns just the values named here; nothing that was there turns. -/
import Derived.Test.YtjldcillackhdaaAmay
namespace Go.Proofs.Ytjldcillackhdaa.Eth.Arp
open Go.RowKit
set_option maxRecDepth 100000

theorem At.five {W : World} {b : Nat} {v0 v1 v2 v3 v4 : Value} (h : At W b #[v0, v1, v2, v3, v4]) : (W.cell? ⟨b, 0, none⟩ = some v0 ∧ W.cell? ⟨b, 1, none⟩ = some v1 ∧ W.cell? ⟨b, 2, none⟩ = some v2 ∧ W.cell? ⟨b, 3, none⟩ = some v3 ∧ W.cell? ⟨b, 4, none⟩ = some v4) ∧
    (W.frozen? ⟨b, 0, none⟩ = false ∧ W.frozen? ⟨b, 1, none⟩ = false ∧ W.frozen? ⟨b, 2, none⟩ = false ∧ W.frozen? ⟨b, 3, none⟩ = false ∧ W.frozen? ⟨b, 4, none⟩ = false) ∧ b < W.heap.size :=
  ⟨⟨(h.2 0 _ rfl).1, (h.2 1 _ rfl).1, (h.2 2 _ rfl).1, (h.2 3 _ rfl).1, (h.2 4 _ rfl).1⟩, ⟨(h.2 0 _ rfl).2, (h.2 1 _ rfl).2, (h.2 2 _ rfl).2, (h.2 3 _ rfl).2, (h.2 4 _ rfl).2⟩, h.1⟩
theorem At.box2 (w : World) (o : Obj) (vs : Array Value) (t : TypeId) : At ((w.alloc o).alloc (.cells vs t)) (w.heap.size + 1) vs := by have := At.box (w.alloc o) vs t; rwa [World.size_alloc] at this
theorem below5 {w W : World} {b : Nat} (h : Below w.heap.size w W) (hb : w.heap.size ≤ b) (v0 v1 v2 v3 v4 : Value) : Below w.heap.size w (((((W.setCell ⟨b, 0, none⟩ v0).setCell ⟨b, 1, none⟩ v1).setCell ⟨b, 2, none⟩ v2).setCell ⟨b, 3, none⟩ v3).setCell ⟨b, 4, none⟩ v4) :=
  ((((h.setCell hb _).setCell hb _).setCell hb _).setCell hb _).setCell hb _


theorem chk_ways (o fm fi tm ti : Int) :
    (mayA o fm fi tm ti = false ∧ (o != 1) = true ∧ (o != 2) = true) ∨
    ((o != 1) = false ∨ (o != 1) = true ∧ (o != 2) = false) ∧ (
    (mayA o fm fi tm ti = false ∧ macB fm = false) ∨ (mayA o fm fi tm ti = false ∧ macB fm = true ∧ macB tm = false) ∨ (mayA o fm fi tm ti = false ∧ macB fm = true ∧ macB tm = true ∧ grpB fm = true) ∨
    (mayA o fm fi tm ti = false ∧ macB fm = true ∧ macB tm = true ∧ grpB fm = false ∧ outB fi 0 4294967295 = true) ∨ (mayA o fm fi tm ti = false ∧ macB fm = true ∧ macB tm = true ∧ grpB fm = false ∧ outB fi 0 4294967295 = false ∧ outB ti 0 4294967295 = true) ∨
    (mayA o fm fi tm ti = true ∧ macB fm = true ∧ macB tm = true ∧ grpB fm = false ∧ outB fi 0 4294967295 = false ∧ outB ti 0 4294967295 = false)) := by
  by_cases ho : o = 1 ∨ o = 2
  · refine .inr ⟨op_ways ho, ?_⟩
    by_cases h1 : 0 ≤ fm ∧ fm ≤ 281474976710655
    · by_cases h2 : 0 ≤ tm ∧ tm ≤ 281474976710655
      · by_cases h3 : fm / 1099511627776 % 2 = 0
        · by_cases h4 : 0 ≤ fi ∧ fi ≤ 4294967295
          · by_cases h5 : 0 ≤ ti ∧ ti ≤ 4294967295
            · exact .inr (.inr (.inr (.inr (.inr ⟨mayA_t ⟨ho, h1, h3, h4, h2, h5⟩, macB_t h1, macB_t h2, grpB_f h3, outB_f h4, outB_f h5⟩))))
            · exact .inr (.inr (.inr (.inr (.inl ⟨mayA_f fun h => h5 h.2.2.2.2.2, macB_t h1, macB_t h2, grpB_f h3, outB_f h4, outB_t (by omega)⟩))))
          · exact .inr (.inr (.inr (.inl ⟨mayA_f fun h => h4 h.2.2.2.1, macB_t h1, macB_t h2, grpB_f h3, outB_t (by omega)⟩)))
        · exact .inr (.inr (.inl ⟨mayA_f fun h => h3 h.2.2.1, macB_t h1, macB_t h2, grpB_t (by omega)⟩))
      · exact .inr (.inl ⟨mayA_f fun h => h2 h.2.2.2.2.1, macB_t h1, macB_f h2⟩)
    · exact .inl ⟨mayA_f fun h => h1 h.2.1, macB_f h1⟩
  · exact .inl ⟨mayA_f fun h => ho h.1, neb fun h => ho (.inl h), neb fun h => ho (.inr h)⟩

theorem amay_t {o fm fi tm ti : Int} (h : mayA o fm fi tm ti = true) (w : World) : Calls Try.prog 41 #[.agg #[.int .i64 o, .int .i64 fm, .int .i64 fi, .int .i64 tm, .int .i64 ti]] w fun e w' => e = .returned (.bool true) ∧ Below w.heap.size w w' := by
  have := amay_any o fm fi tm ti w; rw [h] at this; exact this
theorem amay_f {o fm fi tm ti : Int} (h : mayA o fm fi tm ti = false) (w : World) : Calls Try.prog 41 #[.agg #[.int .i64 o, .int .i64 fm, .int .i64 fi, .int .i64 tm, .int .i64 ti]] w fun e w' => e = .returned (.bool false) ∧ Below w.heap.size w w' := by
  have := amay_any o fm fi tm ti w; rw [h] at this; exact this

end Go.Proofs.Ytjldcillackhdaa.Eth.Arp