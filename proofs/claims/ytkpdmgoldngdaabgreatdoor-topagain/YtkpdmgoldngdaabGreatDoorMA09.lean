/- the texts Ez, Xa, Xr, Xb, Xc, Xd, Xq, Xe, Xf, Xg, Xh, Xj, Xi, in part, merged by program -/
import Derived.Test.YtkpdmgoldngdaabGreatDoorProg
import Derived.Test.YtkpdmgoldngdaabGreatDoorRows
import Derived.WalkKit
import Derived.WalkSpells
import Derived.Laws.OwnMore
import Derived.Laws.AppendOwn
import Derived.Laws.AppendOwnNone
import Derived.LaidEql
import Derived.Stop.Asserts
import Derived.RowKitTokens
import Derived.RangeFuncNested
import Derived.RangeFuncLeaves
import Derived.Shelf.Abstract
import Derived.Recover
import Derived.RangeFuncBox
import Derived.OwnWalkIn
import Derived.TacticsInMore
import Derived.LoopNIn
import Derived.LoopIn
import Derived.Maps.AppendAt
import Derived.Shelf.RegionOpen
import Derived.OrdersIn
import Derived.RangeFuncCalls
import Derived.Deep.Light
import Derived.RegionTactic
import Derived.Below
import Derived.Laws.Tables
import Derived.Great.BuildSlice
import Derived.Deep.LoopGhost
import Derived.Deep.RegionHeld3
import Derived.Deep.QuietTactic
import Derived.BigQuiet
import Derived.WalkSmall
import Derived.Laws.StructEq
import Derived.Shelf.Strings.Repeat
import Derived.Test.YtkpdmgoldngdaabGreatDoorMA01
import Derived.Test.YtkpdmgoldngdaabGreatDoorMA04
namespace Go.Proofs.YtkpdmgoldngdaabGreatDoor
open Go.RowKit
def Ety (W : World) : Prop := W.cell? ⟨1, 0, none⟩ = some (.iface 127 (.agg #[.pointer (some ⟨3, 39, none⟩)]))
theorem Ety.later {w x : World} (h : Ety w) (hb : Below w.heap.size w x) : Ety x := by
  have hlt : 1 < w.heap.size := by
    rcases Nat.lt_or_ge 1 w.heap.size with h1 | h1
    · exact h1
    · simp [Ety, World.cell?, Array.getElem?_eq_none h1] at h
  exact (hb.cell (p := ⟨1, 0, none⟩) hlt).trans h
def OrE (W : World) : Prop := Ord W ∧ Ety W
theorem OrE.later {w x : World} (h : OrE w) (hb : Below w.heap.size w x) : OrE x := ⟨h.1.later hb, h.2.later hb⟩
end Go.Proofs.YtkpdmgoldngdaabGreatDoor

namespace Go.Proofs.YtkpdmgoldngdaabGreatDoor
open Go.RowKit Go.Extern.Stop Go.Stop Go.Extern
set_option maxRecDepth 100000
set_option linter.unusedVariables false
theorem methodKind (h : Value) (w : World) : (Go.method 342 127 (.agg #[h]) "Kind").run Tryz.prog w = .ok (145, h) w := by kernel_rfl
theorem methodElem (h : Value) (w : World) : (Go.method 342 127 (.agg #[h]) "Elem").run Tryz.prog w = .ok (154, .agg #[h]) w := by kernel_rfl
theorem methodImplements (h : Value) (w : World) : (Go.method 342 127 (.agg #[h]) "Implements").run Tryz.prog w = .ok (155, .agg #[h]) w := by kernel_rfl
theorem methodAssignableTo (h : Value) (w : World) : (Go.method 342 127 (.agg #[h]) "AssignableTo").run Tryz.prog w = .ok (152, .agg #[h]) w := by kernel_rfl
theorem rlm (z : Sem Value) (f : TypeId → Addr → Nat → Nat → Sem Value) (v : Value) :
    ReflectliteValue.method z f #[v] = (do match ← ReflectliteValue.parts v with | none => z | some (t, a, fl) => f t a fl (fl % 32)) := rfl
theorem rls (v x : Value) : ReflectliteValue.set #[v, x] = (do
    let (some (dst, a, fl), some (src, b, _)) := (← ReflectliteValue.parts v, ← ReflectliteValue.parts x)
      | unsupported (.noEntry "extern/(internal/reflectlite.Value).Set.zeroValue")
    if fl / ReflectliteValue.flagAddr % 2 == 0 then unsupported (.noEntry "extern/(internal/reflectlite.Value).Set.unaddressable")
    let val ← loadVar src b
    if ← Rtype.directlyAssignable dst src then storeVar dst a val
    else if ← Rtype.implements dst src then
      if (← Rtype.kind src) == 20 then
        match val with
        | .nilIface => unsupported (.noEntry "extern/reflectlite: a nil value of one interface type handed on as a value of another")
        | _ => storeVar dst a val
      else storeVar dst a (.iface src val)
    else panicString ("reflectlite.Set: value of type " ++ (← Rtype.spelt src) ++ " is not assignable to type " ++ (← Rtype.spelt dst))
    pure (.tuple #[])) := rfl

theorem valueOf202 (t : Addr) (w : World) : (ReflectliteValue.unpack (.iface 208 (.pointer (some t)))).run Tryz.prog w
    = .ok (.agg #[.pointer (some ⟨3, 208, none⟩), .pointer (some ⟨w.heap.size, 0, none⟩), .int .u64 150]) (w.alloc (.cells #[.pointer (some t)] 208)) := by kernel_rfl
theorem type202 (a : Addr) (w : World) : (ReflectliteValue.methodAny (ReflectliteValue.valueError "reflectlite.Value.Type" 0) (fun t _ _ _ => ReflectliteType.toType t) #[.agg #[.pointer (some ⟨3, 208, none⟩), .pointer (some a), .int .u64 150]]).run Tryz.prog w
    = .ok (.iface 127 (.agg #[.pointer (some ⟨3, 208, none⟩)])) w := by kernel_rfl
theorem kind202 (w : World) : ((ReflectliteType.abiMethod fun t => (fun a : Nat => Value.int IntKind.u8 (a : Int)) <$> Rtype.kind t) #[.pointer (some ⟨3, 208, none⟩)]).run Tryz.prog w = .ok (.int .u8 22) w := by kernel_rfl
theorem kind88 (w : World) : ((ReflectliteType.abiMethod fun t => (fun a : Nat => Value.int IntKind.u8 (a : Int)) <$> Rtype.kind t) #[.pointer (some ⟨3, 70, none⟩)]).run Tryz.prog w = .ok (.int .u8 22) w := by kernel_rfl
theorem parts202 (a : Addr) (w : World) : (ReflectliteValue.parts (.agg #[.pointer (some ⟨3, 208, none⟩), .pointer (some a), .int .u64 150])).run Tryz.prog w = .ok (some (208, a, 150)) w := by kernel_rfl
theorem isNil202 (a p : Addr) (W : World) (ha : W.cell? a = some (.pointer (some p))) :
    (ReflectliteValue.method (ReflectliteValue.valueError "reflectlite.Value.IsNil" 0) ReflectliteValue.isNil #[.agg #[.pointer (some ⟨3, 208, none⟩), .pointer (some a), .int .u64 150]]).run Tryz.prog W = .ok (.bool false) W := by
  rw [rlm]
  simp only [Sem.run_bind, parts202, Result.andThen]
  simp [ReflectliteValue.isNil, loadVar, isAgg, underlying, Tryz.underlying208, ha, Result.andThen]
theorem elem202 (w : World) : (ReflectliteType.method ReflectliteType.elem #[.agg #[.pointer (some ⟨3, 208, none⟩)]]).run Tryz.prog w = .ok (.iface 127 (.agg #[.pointer (some ⟨3, 70, none⟩)])) w := by kernel_rfl
theorem implements88 (w : World) : (ReflectliteType.relation "Implements" ReflectliteType.implements_ #[.agg #[.pointer (some ⟨3, 70, none⟩)], .iface 127 (.agg #[.pointer (some ⟨3, 39, none⟩)])]).run Tryz.prog w = .ok (.bool true) w := by kernel_rfl
theorem typeOf88 (v : Value) (w : World) : (ReflectliteType.typeOf #[.iface 70 v]).run Tryz.prog w = .ok (.iface 127 (.agg #[.pointer (some ⟨3, 70, none⟩)])) w := by kernel_rfl
theorem assignable88 (w : World) : (ReflectliteType.relation "AssignableTo" ReflectliteType.assignableTo #[.agg #[.pointer (some ⟨3, 70, none⟩)], .iface 127 (.agg #[.pointer (some ⟨3, 70, none⟩)])]).run Tryz.prog w = .ok (.bool true) w := by kernel_rfl
theorem valueOf88 (e : Addr) (w : World) : (ReflectliteValue.unpack (.iface 70 (.pointer (some e)))).run Tryz.prog w
    = .ok (.agg #[.pointer (some ⟨3, 70, none⟩), .pointer (some ⟨w.heap.size, 0, none⟩), .int .u64 150]) (w.alloc (.cells #[.pointer (some e)] 70)) := by kernel_rfl
theorem elemOf202 (w : World) : (Rtype.elem? 208).run Tryz.prog w = .ok (some 70) w := by kernel_rfl
theorem mk88 (p : Addr) (w : World) : (ReflectliteValue.mk 70 p ReflectliteValue.flagAddr).run Tryz.prog w = .ok (.agg #[.pointer (some ⟨3, 70, none⟩), .pointer (some p), .int .u64 406]) w := by kernel_rfl
theorem elemV202 (a p : Addr) (W : World) (ha : W.cell? a = some (.pointer (some p))) :
    (ReflectliteValue.method (ReflectliteValue.valueError "reflectlite.Value.Elem" 0) ReflectliteValue.elem #[.agg #[.pointer (some ⟨3, 208, none⟩), .pointer (some a), .int .u64 150]]).run Tryz.prog W
      = .ok (.agg #[.pointer (some ⟨3, 70, none⟩), .pointer (some p), .int .u64 406]) W := by
  rw [rlm]
  simp only [Sem.run_bind, parts202, Result.andThen]
  simp [ReflectliteValue.elem, loadVar, isAgg, underlying, Tryz.underlying208, ha, Result.andThen, elemOf202, mk88]
theorem parts88a (a : Addr) (w : World) : (ReflectliteValue.parts (.agg #[.pointer (some ⟨3, 70, none⟩), .pointer (some a), .int .u64 406])).run Tryz.prog w = .ok (some (70, a, 406)) w := by kernel_rfl
theorem parts88 (a : Addr) (w : World) : (ReflectliteValue.parts (.agg #[.pointer (some ⟨3, 70, none⟩), .pointer (some a), .int .u64 150])).run Tryz.prog w = .ok (some (70, a, 150)) w := by kernel_rfl
theorem direct88 (w : World) : (Rtype.directlyAssignable 70 70).run Tryz.prog w = .ok true w := by kernel_rfl
theorem set88 (ta b : Addr) (e : Addr) (old : Value) (W : World) (hb : W.cell? b = some (.pointer (some e))) (ht : W.cell? ta = some old) (hf : W.frozen? ta = false) :
    (ReflectliteValue.set #[.agg #[.pointer (some ⟨3, 70, none⟩), .pointer (some ta), .int .u64 406], .agg #[.pointer (some ⟨3, 70, none⟩), .pointer (some b), .int .u64 150]]).run Tryz.prog W
      = .ok (.tuple #[]) (W.setCell ta (.pointer (some e))) := by
  rw [rls]
  simp only [Sem.run_bind, parts88a, parts88, Result.andThen]
  simp [ReflectliteValue.flagAddr, loadVar, isAgg, underlying, Tryz.underlying70, hb, Result.andThen, direct88, storeVar, Value.cells, storeCells, Addr.add]
  rw [run_store Tryz.prog W ta _ _ (by rfl)]
  simp [ht, hf]

set_option maxHeartbeats 4000000 in
theorem as_fail (t : Addr) (e : Addr) (old : Value) (w : World) (hg : w.cell? ⟨1, 0, none⟩ = some (.iface 127 (.agg #[.pointer (some ⟨3, 39, none⟩)]))) (ht0 : w.cell? t = some old) (hf0 : w.frozen? t = false) :
    Calls Tryz.prog 101 #[.iface 70 (.pointer (some e)), .iface 208 (.pointer (some t))] w fun ev w' => ev = .returned (.bool true) ∧ w' = ((((w.alloc (.cells #[.pointer (some t)] 208)).alloc (.cells #[.pointer (some ⟨3, 208, none⟩), .pointer (some ⟨w.heap.size, 0, none⟩), .int .u64 150] 201)).alloc (.cells #[.pointer (some ⟨3, 208, none⟩), .pointer (some ⟨w.heap.size, 0, none⟩), .int .u64 150] 201)).alloc (.cells #[.pointer (some e)] 70)).setCell t (.pointer (some e)) := by
  have h6 := @run_callFunc_extern Tryz.prog 118 _ (fun args => ReflectliteValue.unpack (args.getD 0 (.tuple #[]))) Tryz.func118 (by kernel_rfl) (by kernel_rfl) (by kernel_rfl) (by kernel_rfl)
  have h7 := @run_callFunc_extern Tryz.prog 119 _ (ReflectliteValue.methodAny (ReflectliteValue.valueError "reflectlite.Value.Type" 0) (fun t _ _ _ => ReflectliteType.toType t)) Tryz.func119 (by kernel_rfl) (by kernel_rfl) (by kernel_rfl) (by kernel_rfl)
  have h8 := @run_callFunc_extern Tryz.prog 120 _ (ReflectliteValue.method (ReflectliteValue.valueError "reflectlite.Value.IsNil" 0) ReflectliteValue.isNil) Tryz.func120 (by kernel_rfl) (by kernel_rfl) (by kernel_rfl) (by kernel_rfl)
  have h27 := @run_callFunc_extern Tryz.prog 145 _ (ReflectliteType.abiMethod fun t => do pure (.int .u8 (← Rtype.kind t))) Tryz.func145 (by kernel_rfl) (by kernel_rfl) (by kernel_rfl) (by kernel_rfl)
  have h37 := @run_callFunc_extern Tryz.prog 154 _ (ReflectliteType.method ReflectliteType.elem) Tryz.func154 (by kernel_rfl) (by kernel_rfl) (by kernel_rfl) (by kernel_rfl)
  have h38 := @run_callFunc_extern Tryz.prog 155 _ (ReflectliteType.relation "Implements" ReflectliteType.implements_) Tryz.func155 (by kernel_rfl) (by kernel_rfl) (by kernel_rfl) (by kernel_rfl)
  have h10 := @run_callFunc_extern Tryz.prog 54 _ ReflectliteType.typeOf Tryz.func54 (by kernel_rfl) (by kernel_rfl) (by kernel_rfl) (by kernel_rfl)
  have h35 := @run_callFunc_extern Tryz.prog 152 _ (ReflectliteType.relation "AssignableTo" ReflectliteType.assignableTo) Tryz.func152 (by kernel_rfl) (by kernel_rfl) (by kernel_rfl) (by kernel_rfl)
  have h11 := @run_callFunc_extern Tryz.prog 129 _ (ReflectliteValue.method (ReflectliteValue.valueError "reflectlite.Value.Elem" 0) ReflectliteValue.elem) Tryz.func129 (by kernel_rfl) (by kernel_rfl) (by kernel_rfl) (by kernel_rfl)
  have h12 := @run_callFunc_extern Tryz.prog 130 _ ReflectliteValue.set Tryz.func130 (by kernel_rfl) (by kernel_rfl) (by kernel_rfl) (by kernel_rfl)
  have tO := typeOf88
  have mA := methodAssignableTo
  have a25 := assignable88
  have v25 := valueOf88
  have f6 := valueOf202
  have f7 := type202
  have mK := methodKind
  have mE := methodElem
  have mI := methodImplements
  have k27 := kind202
  have k25 := kind88
  have e27 := elem202
  have i25 := implements88
  have n8 := isNil202 ⟨w.heap.size, 0, none⟩ t ((w.alloc (.cells #[.pointer (some t)] 208)).alloc (.cells #[.pointer (some ⟨3, 208, none⟩), .pointer (some ⟨w.heap.size, 0, none⟩), .int .u64 150] 201)) (by simp)
  have hlt : 1 < w.heap.size := by
    rcases Nat.lt_or_ge 1 w.heap.size with h | h
    · exact h
    · simp [World.cell?, Array.getElem?_eq_none h] at hg
  have hg2 : ((w.alloc (.cells #[.pointer (some t)] 208)).alloc (.cells #[.pointer (some ⟨3, 208, none⟩), .pointer (some ⟨w.heap.size, 0, none⟩), .int .u64 150] 201)).cell? ⟨1, 0, none⟩ = some (.iface 127 (.agg #[.pointer (some ⟨3, 39, none⟩)])) := by
    rw [World.cell?_alloc_lt _ _ ⟨1, 0, none⟩ (by simp; omega), World.cell?_alloc_lt _ _ ⟨1, 0, none⟩ hlt]; exact hg
  have htl : t.block < w.heap.size := by
    rcases Nat.lt_or_ge t.block w.heap.size with h | h
    · exact h
    · simp [World.cell?, Array.getElem?_eq_none h] at ht0
  have el := elemV202 ⟨w.heap.size, 0, none⟩ t (((w.alloc (.cells #[.pointer (some t)] 208)).alloc (.cells #[.pointer (some ⟨3, 208, none⟩), .pointer (some ⟨w.heap.size, 0, none⟩), .int .u64 150] 201)).alloc (.cells #[.pointer (some ⟨3, 208, none⟩), .pointer (some ⟨w.heap.size, 0, none⟩), .int .u64 150] 201)) (by rw [World.cell?_alloc_lt _ _ ⟨w.heap.size, 0, none⟩ (by simp; omega)]; simp)
  have st := set88 t ⟨w.heap.size + 1 + 1 + 1, 0, none⟩ e old ((((w.alloc (.cells #[.pointer (some t)] 208)).alloc (.cells #[.pointer (some ⟨3, 208, none⟩), .pointer (some ⟨w.heap.size, 0, none⟩), .int .u64 150] 201)).alloc (.cells #[.pointer (some ⟨3, 208, none⟩), .pointer (some ⟨w.heap.size, 0, none⟩), .int .u64 150] 201)).alloc (.cells #[.pointer (some e)] 70))
    (by rw [World.cell?_alloc_at _ _ _ _ (by simp)]; rfl)
    (by rw [World.cell?_alloc_lt _ _ t (by simp; omega), World.cell?_alloc_lt _ _ t (by simp; omega), World.cell?_alloc_lt _ _ t (by simp; omega), World.cell?_alloc_lt _ _ t htl]; exact ht0)
    (by rw [World.frozen?_alloc_old _ _ t (by simp; omega), World.frozen?_alloc_old _ _ t (by simp; omega), World.frozen?_alloc_old _ _ t (by simp; omega), World.frozen?_alloc_old _ _ t (Nat.ne_of_lt htl)]; exact hf0)
  go_enter Tryz.func101, Tryz.ntmps101
  go_wp2
  refine wp_loop_rounds 1 ?_
  rw [rounds_succ]
  go_wp2
  go_ret
  exact ⟨rfl, rfl⟩

theorem valueOf180 (t : Addr) (w : World) : (ReflectliteValue.unpack (.iface 169 (.pointer (some t)))).run Tryz.prog w
    = .ok (.agg #[.pointer (some ⟨3, 169, none⟩), .pointer (some ⟨w.heap.size, 0, none⟩), .int .u64 150]) (w.alloc (.cells #[.pointer (some t)] 169)) := by kernel_rfl
theorem type180 (a : Addr) (w : World) : (ReflectliteValue.methodAny (ReflectliteValue.valueError "reflectlite.Value.Type" 0) (fun t _ _ _ => ReflectliteType.toType t) #[.agg #[.pointer (some ⟨3, 169, none⟩), .pointer (some a), .int .u64 150]]).run Tryz.prog w
    = .ok (.iface 127 (.agg #[.pointer (some ⟨3, 169, none⟩)])) w := by kernel_rfl
theorem kind180 (w : World) : ((ReflectliteType.abiMethod fun t => (fun a : Nat => Value.int IntKind.u8 (a : Int)) <$> Rtype.kind t) #[.pointer (some ⟨3, 169, none⟩)]).run Tryz.prog w = .ok (.int .u8 22) w := by kernel_rfl
theorem kind41 (w : World) : ((ReflectliteType.abiMethod fun t => (fun a : Nat => Value.int IntKind.u8 (a : Int)) <$> Rtype.kind t) #[.pointer (some ⟨3, 42, none⟩)]).run Tryz.prog w = .ok (.int .u8 2) w := by kernel_rfl
theorem parts180 (a : Addr) (w : World) : (ReflectliteValue.parts (.agg #[.pointer (some ⟨3, 169, none⟩), .pointer (some a), .int .u64 150])).run Tryz.prog w = .ok (some (169, a, 150)) w := by kernel_rfl
theorem isNil180 (a p : Addr) (W : World) (ha : W.cell? a = some (.pointer (some p))) :
    (ReflectliteValue.method (ReflectliteValue.valueError "reflectlite.Value.IsNil" 0) ReflectliteValue.isNil #[.agg #[.pointer (some ⟨3, 169, none⟩), .pointer (some a), .int .u64 150]]).run Tryz.prog W = .ok (.bool false) W := by
  rw [rlm]
  simp only [Sem.run_bind, parts180, Result.andThen]
  simp [ReflectliteValue.isNil, loadVar, isAgg, underlying, Tryz.underlying169, ha, Result.andThen]
theorem elem180 (w : World) : (ReflectliteType.method ReflectliteType.elem #[.agg #[.pointer (some ⟨3, 169, none⟩)]]).run Tryz.prog w = .ok (.iface 127 (.agg #[.pointer (some ⟨3, 42, none⟩)])) w := by kernel_rfl
theorem implements41 (w : World) : (ReflectliteType.relation "Implements" ReflectliteType.implements_ #[.agg #[.pointer (some ⟨3, 42, none⟩)], .iface 127 (.agg #[.pointer (some ⟨3, 39, none⟩)])]).run Tryz.prog w = .ok (.bool true) w := by kernel_rfl
theorem typeOf41 (v : Value) (w : World) : (ReflectliteType.typeOf #[.iface 42 v]).run Tryz.prog w = .ok (.iface 127 (.agg #[.pointer (some ⟨3, 42, none⟩)])) w := by kernel_rfl
theorem assignable41 (w : World) : (ReflectliteType.relation "AssignableTo" ReflectliteType.assignableTo #[.agg #[.pointer (some ⟨3, 42, none⟩)], .iface 127 (.agg #[.pointer (some ⟨3, 42, none⟩)])]).run Tryz.prog w = .ok (.bool true) w := by kernel_rfl
theorem valueOf41 (c : Int) (w : World) : (ReflectliteValue.unpack (.iface 42 (.int .i64 c))).run Tryz.prog w
    = .ok (.agg #[.pointer (some ⟨3, 42, none⟩), .pointer (some ⟨w.heap.size, 0, none⟩), .int .u64 130]) (w.alloc (.cells #[.int .i64 c] 42)) := by kernel_rfl
theorem elemOf180 (w : World) : (Rtype.elem? 169).run Tryz.prog w = .ok (some 42) w := by kernel_rfl
theorem mk41 (p : Addr) (w : World) : (ReflectliteValue.mk 42 p ReflectliteValue.flagAddr).run Tryz.prog w = .ok (.agg #[.pointer (some ⟨3, 42, none⟩), .pointer (some p), .int .u64 386]) w := by kernel_rfl
theorem elemV180 (a p : Addr) (W : World) (ha : W.cell? a = some (.pointer (some p))) :
    (ReflectliteValue.method (ReflectliteValue.valueError "reflectlite.Value.Elem" 0) ReflectliteValue.elem #[.agg #[.pointer (some ⟨3, 169, none⟩), .pointer (some a), .int .u64 150]]).run Tryz.prog W
      = .ok (.agg #[.pointer (some ⟨3, 42, none⟩), .pointer (some p), .int .u64 386]) W := by
  rw [rlm]
  simp only [Sem.run_bind, parts180, Result.andThen]
  simp [ReflectliteValue.elem, loadVar, isAgg, underlying, Tryz.underlying169, ha, Result.andThen, elemOf180, mk41]
theorem parts41a (a : Addr) (w : World) : (ReflectliteValue.parts (.agg #[.pointer (some ⟨3, 42, none⟩), .pointer (some a), .int .u64 386])).run Tryz.prog w = .ok (some (42, a, 386)) w := by kernel_rfl
theorem parts41 (a : Addr) (w : World) : (ReflectliteValue.parts (.agg #[.pointer (some ⟨3, 42, none⟩), .pointer (some a), .int .u64 130])).run Tryz.prog w = .ok (some (42, a, 130)) w := by kernel_rfl
theorem direct41 (w : World) : (Rtype.directlyAssignable 42 42).run Tryz.prog w = .ok true w := by kernel_rfl
theorem set41 (ta b : Addr) (c : Int) (old : Value) (W : World) (hb : W.cell? b = some (.int .i64 c)) (ht : W.cell? ta = some old) (hf : W.frozen? ta = false) :
    (ReflectliteValue.set #[.agg #[.pointer (some ⟨3, 42, none⟩), .pointer (some ta), .int .u64 386], .agg #[.pointer (some ⟨3, 42, none⟩), .pointer (some b), .int .u64 130]]).run Tryz.prog W
      = .ok (.tuple #[]) (W.setCell ta (.int .i64 c)) := by
  rw [rls]
  simp only [Sem.run_bind, parts41a, parts41, Result.andThen]
  simp [ReflectliteValue.flagAddr, loadVar, isAgg, underlying, Tryz.underlying42, hb, Result.andThen, direct41, storeVar, Value.cells, storeCells, Addr.add]
  rw [run_store Tryz.prog W ta _ _ (by rfl)]
  simp [ht, hf]

set_option maxHeartbeats 4000000 in
theorem as_code (t : Addr) (c : Int) (old : Value) (w : World) (hg : w.cell? ⟨1, 0, none⟩ = some (.iface 127 (.agg #[.pointer (some ⟨3, 39, none⟩)]))) (ht0 : w.cell? t = some old) (hf0 : w.frozen? t = false) :
    Calls Tryz.prog 101 #[.iface 42 (.int .i64 c), .iface 169 (.pointer (some t))] w fun ev w' => ev = .returned (.bool true) ∧ w' = ((((w.alloc (.cells #[.pointer (some t)] 169)).alloc (.cells #[.pointer (some ⟨3, 169, none⟩), .pointer (some ⟨w.heap.size, 0, none⟩), .int .u64 150] 201)).alloc (.cells #[.pointer (some ⟨3, 169, none⟩), .pointer (some ⟨w.heap.size, 0, none⟩), .int .u64 150] 201)).alloc (.cells #[.int .i64 c] 42)).setCell t (.int .i64 c) := by
  have h6 := @run_callFunc_extern Tryz.prog 118 _ (fun args => ReflectliteValue.unpack (args.getD 0 (.tuple #[]))) Tryz.func118 (by kernel_rfl) (by kernel_rfl) (by kernel_rfl) (by kernel_rfl)
  have h7 := @run_callFunc_extern Tryz.prog 119 _ (ReflectliteValue.methodAny (ReflectliteValue.valueError "reflectlite.Value.Type" 0) (fun t _ _ _ => ReflectliteType.toType t)) Tryz.func119 (by kernel_rfl) (by kernel_rfl) (by kernel_rfl) (by kernel_rfl)
  have h8 := @run_callFunc_extern Tryz.prog 120 _ (ReflectliteValue.method (ReflectliteValue.valueError "reflectlite.Value.IsNil" 0) ReflectliteValue.isNil) Tryz.func120 (by kernel_rfl) (by kernel_rfl) (by kernel_rfl) (by kernel_rfl)
  have h27 := @run_callFunc_extern Tryz.prog 145 _ (ReflectliteType.abiMethod fun t => do pure (.int .u8 (← Rtype.kind t))) Tryz.func145 (by kernel_rfl) (by kernel_rfl) (by kernel_rfl) (by kernel_rfl)
  have h37 := @run_callFunc_extern Tryz.prog 154 _ (ReflectliteType.method ReflectliteType.elem) Tryz.func154 (by kernel_rfl) (by kernel_rfl) (by kernel_rfl) (by kernel_rfl)
  have h38 := @run_callFunc_extern Tryz.prog 155 _ (ReflectliteType.relation "Implements" ReflectliteType.implements_) Tryz.func155 (by kernel_rfl) (by kernel_rfl) (by kernel_rfl) (by kernel_rfl)
  have h10 := @run_callFunc_extern Tryz.prog 54 _ ReflectliteType.typeOf Tryz.func54 (by kernel_rfl) (by kernel_rfl) (by kernel_rfl) (by kernel_rfl)
  have h35 := @run_callFunc_extern Tryz.prog 152 _ (ReflectliteType.relation "AssignableTo" ReflectliteType.assignableTo) Tryz.func152 (by kernel_rfl) (by kernel_rfl) (by kernel_rfl) (by kernel_rfl)
  have h11 := @run_callFunc_extern Tryz.prog 129 _ (ReflectliteValue.method (ReflectliteValue.valueError "reflectlite.Value.Elem" 0) ReflectliteValue.elem) Tryz.func129 (by kernel_rfl) (by kernel_rfl) (by kernel_rfl) (by kernel_rfl)
  have h12 := @run_callFunc_extern Tryz.prog 130 _ ReflectliteValue.set Tryz.func130 (by kernel_rfl) (by kernel_rfl) (by kernel_rfl) (by kernel_rfl)
  have tO := typeOf41
  have mA := methodAssignableTo
  have a25 := assignable41
  have v25 := valueOf41
  have f6 := valueOf180
  have f7 := type180
  have mK := methodKind
  have mE := methodElem
  have mI := methodImplements
  have k27 := kind180
  have k25 := kind41
  have e27 := elem180
  have i25 := implements41
  have n8 := isNil180 ⟨w.heap.size, 0, none⟩ t ((w.alloc (.cells #[.pointer (some t)] 169)).alloc (.cells #[.pointer (some ⟨3, 169, none⟩), .pointer (some ⟨w.heap.size, 0, none⟩), .int .u64 150] 201)) (by simp)
  have hlt : 1 < w.heap.size := by
    rcases Nat.lt_or_ge 1 w.heap.size with h | h
    · exact h
    · simp [World.cell?, Array.getElem?_eq_none h] at hg
  have hg2 : ((w.alloc (.cells #[.pointer (some t)] 169)).alloc (.cells #[.pointer (some ⟨3, 169, none⟩), .pointer (some ⟨w.heap.size, 0, none⟩), .int .u64 150] 201)).cell? ⟨1, 0, none⟩ = some (.iface 127 (.agg #[.pointer (some ⟨3, 39, none⟩)])) := by
    rw [World.cell?_alloc_lt _ _ ⟨1, 0, none⟩ (by simp; omega), World.cell?_alloc_lt _ _ ⟨1, 0, none⟩ hlt]; exact hg
  have htl : t.block < w.heap.size := by
    rcases Nat.lt_or_ge t.block w.heap.size with h | h
    · exact h
    · simp [World.cell?, Array.getElem?_eq_none h] at ht0
  have el := elemV180 ⟨w.heap.size, 0, none⟩ t (((w.alloc (.cells #[.pointer (some t)] 169)).alloc (.cells #[.pointer (some ⟨3, 169, none⟩), .pointer (some ⟨w.heap.size, 0, none⟩), .int .u64 150] 201)).alloc (.cells #[.pointer (some ⟨3, 169, none⟩), .pointer (some ⟨w.heap.size, 0, none⟩), .int .u64 150] 201)) (by rw [World.cell?_alloc_lt _ _ ⟨w.heap.size, 0, none⟩ (by simp; omega)]; simp)
  have st := set41 t ⟨w.heap.size + 1 + 1 + 1, 0, none⟩ c old ((((w.alloc (.cells #[.pointer (some t)] 169)).alloc (.cells #[.pointer (some ⟨3, 169, none⟩), .pointer (some ⟨w.heap.size, 0, none⟩), .int .u64 150] 201)).alloc (.cells #[.pointer (some ⟨3, 169, none⟩), .pointer (some ⟨w.heap.size, 0, none⟩), .int .u64 150] 201)).alloc (.cells #[.int .i64 c] 42))
    (by rw [World.cell?_alloc_at _ _ _ _ (by simp)]; rfl)
    (by rw [World.cell?_alloc_lt _ _ t (by simp; omega), World.cell?_alloc_lt _ _ t (by simp; omega), World.cell?_alloc_lt _ _ t (by simp; omega), World.cell?_alloc_lt _ _ t htl]; exact ht0)
    (by rw [World.frozen?_alloc_old _ _ t (by simp; omega), World.frozen?_alloc_old _ _ t (by simp; omega), World.frozen?_alloc_old _ _ t (by simp; omega), World.frozen?_alloc_old _ _ t (Nat.ne_of_lt htl)]; exact hf0)
  go_enter Tryz.func101, Tryz.ntmps101
  go_wp2
  refine wp_loop_rounds 1 ?_
  rw [rounds_succ]
  go_wp2
  go_ret
  exact ⟨rfl, rfl⟩
end Go.Proofs.YtkpdmgoldngdaabGreatDoor

namespace Go.Proofs.YtkpdmgoldngdaabGreatDoor
open Go.RowKit Go
set_option linter.unusedVariables false
def ItRuns {α : Type} (F : Fence) (n : Nat) (P : Program) (g : Nat) (lb : Array Value) (encs : α → Array Value) (Kp : World → World → Prop) (St : Nat → World → World → Prop) (xs : List α) (w : World) : Prop :=
  ∀ (l : Nat) (J Jx : Nat → World → Prop) (W : World), Below w.heap.size w W → (∀ i A B, J i A → St W.heap.size A B → J i B) →
    (∀ i x W1, xs[i]? = some x → J i W1 → YieldAt F (n - 1) P l (encs x) W1 fun e W' => (e = .returned (.bool true) ∧ J (i + 1) W' ∧ Kp W1 W') ∨ (e = .returned (.bool false) ∧ Jx i W')) →
    J 0 W →
    CallsIn F n P g (#[.func (.yield l) #[] #[]] ++ lb) W fun e W' => (∃ v, e = .returned v) ∧ (J xs.length W' ∨ ∃ i, i < xs.length ∧ Jx i W')

def itPost (B : Nat) (Bd : World → World → Prop) (I Ix : Nat → World → Prop) (i : Nat) (W : World) : Exit → Act → World → Prop
  | .normal, _, W' => KeepsFrom B W W' ∧ Bd W W' ∧ I (i + 1) W'
  | .ret, _, W' => KeepsFrom B W W' ∧ Ix i W'
  | _, _, _ => False

theorem round_below {W W3 : World} {l : Nat} {o o' : Obj} (hl : W.heap[l]? = some o) (h : Below (W.putObj l o').heap.size (W.putObj l o') W3) : Below W.heap.size W (W3.putObj l o) := by
  have hlt : l < W.heap.size := (Array.getElem?_eq_some_iff.1 hl).1
  have hs : (W.putObj l o').heap.size = W.heap.size := by simp
  rw [hs] at h
  have h3 : W.heap.size ≤ W3.heap.size := by have := h.size; rw [hs] at this; exact this
  refine ⟨h.os, h.tape, h.output, by simpa using h3, fun k hk => ?_⟩
  by_cases e : k = l
  · subst e
    rw [World.putObj_heap_same (by omega), hl]
  · rw [World.putObj_heap_other (fun e' => e e'), h.block k hk, World.putObj_heap_other (fun e' => e e')]
theorem keepsFrom_of_below {B : Nat} {W W' : World} (h : Below W.heap.size W W') : KeepsFrom B W W' :=
  ⟨h.size, fun k o _ hk _ => (h.block k (Array.getElem?_eq_some_iff.1 hk).1).trans hk⟩

set_option maxHeartbeats 1000000 in
theorem wpIn_range_it {F : Fence} {n : Nat} {P : Program} {α : Type} {g : Operand} {ps : Array Tmp} {assign body : Code} {Q : Exit → Act → World → Prop} {a : Act} {w : World}
    (hro : F.round = none) (h1 : 1 ≤ n) {gf : Nat} {lb : Array Value} (hg : a.eval g = .func (.func gf) #[] lb) (hFg : F.fn gf) (eg : ∀ args w, (callFunc gf args).run P w = .ok (.enter gf args) w)
    {encs : α → Array Value} {Kp Bd : World → World → Prop} {St : Nat → World → World → Prop} {xs : List α} {w0 : World} (hseq : ItRuns F (n - 1) P gf lb encs Kp St xs w0)
    (hb0 : Below w0.heap.size w0 w) (hps : ∀ x, (encs x).size = ps.size)
    (I Ix : Nat → World → Prop) (h0 : I 0 w)
    (hIs : ∀ i s A B, w.heap.size + 2 ≤ s → I i A → St s A B → I i B)
    (hSt : ∀ s k A B (o : Obj), k < s → A.heap[k]? = some o → o.isCells = false → St s A B → B.heap[k]? = some o)
    (hIa : ∀ i A (o : Obj), I i A → I i (A.alloc o))
    (hIp : ∀ i A (l : Nat) (o o' : Obj), w.heap.size ≤ l → A.heap[l]? = some o → o.isCells = false → I i A → I i (A.putObj l o'))
    (hXp : ∀ i A (l : Nat) (o o' : Obj), w.heap.size ≤ l → A.heap[l]? = some o → o.isCells = false → Ix i A → Ix i (A.putObj l o'))
    (hKp : ∀ W W3 (l : Nat) (o o' : Obj), W.heap[l]? = some o → Bd (W.putObj l o') W3 → Kp W (W3.putObj l o))
    (a₁ : α → Act)
    (hassign : ∀ (l : Nat) (x : α) (W : World) (K : Act → World → Prop), K (a₁ x) W →
      assign.wpIn (F.inRound l) (n - 1 - 1) P (Exit.then K (fun _ _ _ => False)) { tmps := (ps.zip (encs x)).foldl (fun t (p, v) => t.setIfInBounds p v) a.tmps, defers := [] } W)
    (hbody : ∀ (l i : Nat) (x : α) (W : World), xs[i]? = some x → w.heap.size + 2 ≤ W.heap.size → I i W → body.wpIn (F.inRound l) (n - 1 - 1) P (itPost w.heap.size Bd I Ix i W) (a₁ x) W)
    (hdone : ∀ (D : Nat) (W : World), w.heap.size ≤ D → I xs.length W → W.heap[D]? = some (.deferred (some [])) → Q .normal { a with defers := { target := .collected D, args := #[] } :: a.defers } W)
    (hstop : ∀ (D i : Nat) (W : World), w.heap.size ≤ D → i < xs.length → Ix i W → W.heap[D]? = some (.deferred (some [])) → Code.ret.wpIn F n P Q { a with defers := { target := .collected D, args := #[] } :: a.defers } W) :
    (Code.rangeFunc g ps assign body).wpIn F n P Q a w := by
  refine wpIn_rangeFunc ?_
  intro fn hfn
  rw [hro]
  obtain ⟨rec, hrec⟩ : ∃ rec : LoopState → Option Code → Loop, rec = fun st pe => { state := st, pending := pe, fn, tmps := a.tmps, params := ps, assign, body, defers := w.heap.size } := ⟨_, rfl⟩
  obtain ⟨W1, hW1⟩ : ∃ W1, (w.alloc (.deferred (some []))).alloc (.loop (rec .ready none)) = W1 := ⟨_, rfl⟩
  have hL1 : W1.heap[w.heap.size + 1]? = some (.loop (rec .ready none)) := by
    rw [← hW1]; have := World.alloc_heap_new (w.alloc (.deferred (some []))) (.loop (rec .ready none)); rwa [World.size_alloc] at this
  have hK1 : W1.heap[w.heap.size]? = some (.deferred (some [])) := by
    rw [← hW1]; exact (Below.heap_alloc _ _ _ (by simp)).trans (World.alloc_heap_new w _)
  have hI1 : I 0 W1 := by rw [← hW1]; exact hIa _ _ _ (hIa _ _ _ h0)
  have hb1 : Below w0.heap.size w0 W1 := by
    rw [← hW1]; exact hb0.trans ((((Below.refl _ w).alloc (Nat.le_refl _) _).alloc (by simp) _).mono hb0.size)
  have hs1 : W1.heap.size = w.heap.size + 2 := by rw [← hW1]; simp
  refine ⟨w.heap.size + 1, [{ target := .collected w.heap.size, args := #[] }], W1, { target := .fn (.func gf) lb, args := #[.func (.yield (w.heap.size + 1)) #[] #[]] }, W1, gf,
    #[.func (.yield (w.heap.size + 1)) #[] #[]] ++ lb, W1, ?_, ?_, ?_, ?_, fun _ => h1, ?_⟩
  · rw [← hW1, hrec]; exact run_enterLoop_outer _ _ _ _ _
  · simp only [resolve, hg]
    simp [go_sem]
  · intro f' hf'; simp [Target.leads] at hf'; subst hf'; exact hFg
  · simp [invoke, go_sem, eg]
  · refine (hseq (w.heap.size + 1)
      (fun i W => I i W ∧ w.heap.size + 2 ≤ W.heap.size ∧ W.heap[w.heap.size + 1]? = some (.loop (rec .ready none)) ∧ W.heap[w.heap.size]? = some (.deferred (some [])))
      (fun i W => Ix i W ∧ W.heap[w.heap.size + 1]? = some (.loop (rec .done (some .ret))) ∧ W.heap[w.heap.size]? = some (.deferred (some [])))
      W1 hb1
      (fun i A B hs hst => by
        have e1 := hSt _ _ _ _ _ (by omega) hs.2.2.1 rfl hst
        exact ⟨hIs i _ A B (by omega) hs.1 hst, (by have := (Array.getElem?_eq_some_iff.1 e1).1; omega), e1, hSt _ _ _ _ _ (by omega) hs.2.2.2 rfl hst⟩)
      ?_ ⟨hI1, by omega, hL1, hK1⟩).mono ?_
    · rintro i x W hx ⟨hi, hsz, hl, hk⟩
      have hlt : w.heap.size + 1 < W.heap.size := by omega
      have hy := run_yield (P := P) (args := encs x) hl (by rw [hrec]; exact hps x)
      rw [hrec] at hy
      refine ⟨fn, _, assign, body, hy, roundIn_of_wpIn hfn (hassign _ x W _ ⟨_, run_beginRound hl (by rw [hrec]), ?_⟩)⟩
      have hl2 : (W.putObj (w.heap.size + 1) (.loop { rec .ready none with state := .busy })).heap[w.heap.size + 1]? = some (.loop { rec .ready none with state := .busy }) := World.putObj_heap_same hlt
      have hk2 : (W.putObj (w.heap.size + 1) (.loop { rec .ready none with state := .busy })).heap[w.heap.size]? = some (.deferred (some [])) := (World.putObj_heap_other (by omega)).trans hk
      have hs2 : (W.putObj (w.heap.size + 1) (.loop { rec .ready none with state := .busy })).heap.size = W.heap.size := by simp
      refine wpIn_mono (hbody _ i x _ hx (by simpa using hsz) (hIp _ _ _ _ _ (by omega) hl rfl hi)) ?_
      have fin : ∀ (jump : Option Code) (W3 : World), KeepsFrom w.heap.size (W.putObj (w.heap.size + 1) (.loop { rec .ready none with state := .busy })) W3 →
          (Instr.endRound (w.heap.size + 1) jump).run P W3 = .ok (.bool jump.isNone) (W3.putObj (w.heap.size + 1) (.loop (rec (if jump.isNone then .ready else .done) jump))) ∧
          W3.heap[w.heap.size + 1]? = some (.loop { rec .ready none with state := .busy }) ∧
          (W3.putObj (w.heap.size + 1) (.loop (rec (if jump.isNone then .ready else .done) jump))).heap[w.heap.size + 1]? = some (.loop (rec (if jump.isNone then .ready else .done) jump)) ∧
          (W3.putObj (w.heap.size + 1) (.loop (rec (if jump.isNone then .ready else .done) jump))).heap[w.heap.size]? = some (.deferred (some [])) := fun jump W3 hk3 => by
        have hl3 := hk3.same _ _ (by omega) hl2 rfl
        have := run_endRound (P := P) jump hl3
        rw [hrec] at this ⊢
        exact ⟨this, by rw [hrec] at hl3; exact hl3, World.putObj_heap_same (Array.getElem?_eq_some_iff.1 hl3).1, (World.putObj_heap_other (by omega)).trans (hk3.same _ _ (by omega) hk2 rfl)⟩
      rintro e a3 W3 hp
      cases e with
      | normal =>
        obtain ⟨hk3, hbd3, hi3⟩ := hp
        obtain ⟨hr, hl3, hl4, hk4⟩ := fin none W3 hk3
        refine ⟨_, _, hr, .inl ⟨rfl, ⟨hIp _ _ _ _ _ (by omega) hl3 rfl hi3, ?_, hl4, hk4⟩, ?_⟩⟩
        · have := hk3.size; simp at this ⊢; omega
        · exact hKp _ _ _ _ _ hl hbd3
      | ret =>
        obtain ⟨hk3, hi3⟩ := hp
        obtain ⟨hr, hl3, hl4, hk4⟩ := fin (some .ret) W3 hk3
        exact ⟨_, _, hr, .inr ⟨rfl, hXp _ _ _ _ _ (by omega) hl3 rfl hi3, hl4, hk4⟩⟩
      | exit id => exact hp.elim
      | goto t => exact hp.elim
      | panic ch => exact hp.elim
      | outgrown => exact hp.elim
    · rintro e W2 ⟨⟨v, rfl⟩, (⟨hi, _, hl, hk⟩ | ⟨i, hlt, hi, hl, hk⟩)⟩
      · exact ⟨none, _, by have := run_endLoop (P := P) hl (by rw [hrec]; simp); rw [hrec] at this; exact this, hdone _ _ (Nat.le_refl _) (hIp _ _ _ _ _ (by omega) hl rfl hi) ((World.putObj_heap_other (by omega)).trans hk)⟩
      · exact ⟨some .ret, _, by have := run_endLoop (P := P) hl (by rw [hrec]; simp); rw [hrec] at this; exact this, hstop _ _ _ (Nat.le_refl _) hlt (hXp _ _ _ _ _ (by omega) hl rfl hi) ((World.putObj_heap_other (by omega)).trans hk)⟩
end Go.Proofs.YtkpdmgoldngdaabGreatDoor

namespace Go.Proofs.YtkpdmgoldngdaabGreatDoor
open Go.RowKit Go.Stop
set_option maxRecDepth 100000
set_option linter.unusedVariables false
set_option linter.unusedSimpArgs false
theorem rec166 (w : World) : CallsD Tryz.prog 127 #[] .returning w fun e u' w' => e = .returned (.tuple #[]) ∧ u' = .returning ∧ w' = w := by
  refine callsD_of_wpS Tryz.func127 rfl fun c₀ cs hu => ?_
  apply wpS_region
  cases c₀
  simp_all [wpOpsS, go_sem, recoverD, Tryz.ntmps127, bodyPostS, results, Tryz.results127]
theorem rec128 (w : World) : CallsD Tryz.prog 100 #[] .returning w fun e u' w' => e = .returned (.tuple #[]) ∧ u' = .returning ∧ w' = w := by
  refine callsD_of_wpS Tryz.func100 rfl fun c₀ cs hu => ?_
  apply wpS_region
  cases c₀
  simp_all [wpOpsS, go_sem, recoverD, Tryz.ntmps100, bodyPostS, results, Tryz.results100]
theorem rec149 (w : World) : CallsD Tryz.prog 123 #[] .returning w fun e u' w' => e = .returned (.tuple #[]) ∧ u' = .returning ∧ w' = w := by
  refine callsD_of_wpS Tryz.func123 rfl fun c₀ cs hu => ?_
  apply wpS_region
  cases c₀
  simp_all [wpOpsS, go_sem, recoverD, Tryz.ntmps123, bodyPostS, results, Tryz.results123]
theorem has88_195 (v : Value) (xT : TypeId) (w : World) : (Instr.typeAssert (.iface 70 v) xT 132 true).run Tryz.prog w = .ok (.tuple #[.iface 70 v, .bool true]) w := run_typeAssert_hasB Tryz.underlying132 (by kernel_rfl) v xT w
theorem lacks41_195 (v : Value) (xT : TypeId) (w : World) : (Instr.typeAssert (.iface 42 v) xT 132 true).run Tryz.prog w = .ok (.tuple #[.nilIface, .bool false]) w := run_typeAssert_lacksB Tryz.underlying132 (by kernel_rfl) (by kernel_rfl) v xT w
theorem lacks41_197 (v : Value) (xT : TypeId) (w : World) : (Instr.typeAssert (.iface 42 v) xT 134 true).run Tryz.prog w = .ok (.tuple #[.nilIface, .bool false]) w := run_typeAssert_lacksB Tryz.underlying134 (by kernel_rfl) (by kernel_rfl) v xT w
theorem lacks88_181 (v : Value) (xT : TypeId) (w : World) : (Instr.typeAssert (.iface 70 v) xT 170 true).run Tryz.prog w = .ok (.tuple #[.nilIface, .bool false]) w := run_typeAssert_lacksB Tryz.underlying170 (by kernel_rfl) (by kernel_rfl) v xT w
theorem lacks41_181 (v : Value) (xT : TypeId) (w : World) : (Instr.typeAssert (.iface 42 v) xT 170 true).run Tryz.prog w = .ok (.tuple #[.nilIface, .bool false]) w := run_typeAssert_lacksB Tryz.underlying170 (by kernel_rfl) (by kernel_rfl) v xT w
theorem unwrap88 (p : Option Addr) (w : World) : (Go.method 342 70 (.pointer p) "Unwrap").run Tryz.prog w = .ok (150, .pointer p) w := by kernel_rfl
set_option maxHeartbeats 2000000 in
theorem wrap_fail (p : Nat) (l : ByteArray) (a : Int) (k : TypeId) (x : Value) (w : World) (h : At w p #[.string l, .int .i64 a, .iface k x]) :
    Calls Tryz.prog 116 #[.iface 70 (.pointer (some ⟨p, 0, none⟩))] w fun e w' => e = .returned (.tuple #[.iface k x, .slice none 0 0]) ∧ w' = w := by
  have c2 := (h.2 2 _ rfl).1
  have f1 := has88_195
  have f2 := unwrap88
  go_enter_defers Tryz.func116, Tryz.ntmps116
  go_wp2
  refine leaves_cons (f := 127) (args := #[]) (by simp) (by simp [go_sem]) ?_
  refine (rec166 _).mono ?_
  rintro e u' w'' ⟨rfl, rfl, rfl⟩
  simp [Leaves, settle, results, Tryz.results116, go_sem]
set_option maxHeartbeats 2000000 in
theorem wrap_code (c : Int) (w : World) :
    Calls Tryz.prog 116 #[.iface 42 (.int .i64 c)] w fun e w' => e = .returned (.tuple #[.nilIface, .slice none 0 0]) ∧ w' = w := by
  have f1 := lacks41_195
  have f2 := lacks41_197
  go_enter_defers Tryz.func116, Tryz.ntmps116
  go_wp2
  refine leaves_cons (f := 127) (args := #[]) (by simp) (by simp [go_sem]) ?_
  refine (rec166 _).mono ?_
  rintro e u' w'' ⟨rfl, rfl, rfl⟩
  simp [Leaves, settle, results, Tryz.results116, go_sem]
end Go.Proofs.YtkpdmgoldngdaabGreatDoor

namespace Go.Proofs.YtkpdmgoldngdaabGreatDoor
open Go.RowKit Go.Stop
set_option maxRecDepth 100000
set_option linter.unusedVariables false
set_option linter.unusedSimpArgs false
theorem not88_41 (v : Value) (xT : TypeId) (w : World) : (Instr.typeAssert (.iface 70 v) xT 42 true).run Tryz.prog w = .ok (.tuple #[.int .i64 0, .bool false]) w := by kernel_rfl
theorem not41_88 (v : Value) (xT : TypeId) (w : World) : (Instr.typeAssert (.iface 42 v) xT 70 true).run Tryz.prog w = .ok (.tuple #[.pointer none, .bool false]) w := by kernel_rfl
theorem is88_88 (v : Value) (xT : TypeId) (w : World) : (Instr.typeAssert (.iface 70 v) xT 70 true).run Tryz.prog w = .ok (.tuple #[v, .bool true]) w := by kernel_rfl
theorem is41_41 (v : Value) (xT : TypeId) (w : World) : (Instr.typeAssert (.iface 42 v) xT 42 true).run Tryz.prog w = .ok (.tuple #[v, .bool true]) w := by kernel_rfl
set_option maxHeartbeats 2000000 in
theorem own82_code (c : Int) (w : World) (hE : Ety w) :
    Calls Tryz.prog 76 #[.iface 42 (.int .i64 c)] w fun e w' => e = .returned (.tuple #[.int .i64 c, .bool true]) ∧ Below w.heap.size w w' := by
  have f1 := is41_41
  go_enter_defers Tryz.func76, Tryz.ntmps76
  go_wp2_with fail
  refine (as_code ⟨w.heap.size, 0, none⟩ c _ _ (hE.later (bel1 _ _)) ((At.box w #[.int .i64 0] 42).2 0 _ rfl).1 ((At.box w #[.int .i64 0] 42).2 0 _ rfl).2).mono ?_
  rintro e w1 ⟨rfl, hw⟩
  have hc : w1.cell? ⟨w.heap.size, 0, none⟩ = some (.int .i64 c) := by
    rw [hw]
    refine World.cell?_setCell_same' _ _ _ ?_
    rw [World.cell?_alloc_lt _ _ ⟨w.heap.size, 0, none⟩ (by simp; omega), World.cell?_alloc_lt _ _ ⟨w.heap.size, 0, none⟩ (by simp; omega), World.cell?_alloc_lt _ _ ⟨w.heap.size, 0, none⟩ (by simp; omega), World.cell?_alloc_lt _ _ ⟨w.heap.size, 0, none⟩ (by simp), ((At.box w #[.int .i64 0] 42).2 0 _ rfl).1]
    rfl
  have hb : Below w.heap.size w w1 := by
    rw [hw]
    exact (((((bel1 w _).alloc (by simp) _).alloc (by simp; omega) _).alloc (by simp; omega) _).alloc (by simp; omega) _).setCell (p := ⟨w.heap.size, 0, none⟩) (Nat.le_refl _) _
  clear hw
  go_wp2
  refine leaves_cons (f := 100) (args := #[]) (by simp) (by simp [go_sem]) ?_
  refine (rec128 _).mono ?_
  rintro e u' w'' ⟨rfl, rfl, rfl⟩
  simp only [Leaves, settle]
  exact ⟨.tuple #[.int .i64 c, .bool true], by simp [results, Tryz.results76, go_sem], rfl, hb⟩
set_option maxHeartbeats 2000000 in
theorem own82_fail (p : Nat) (w : World) :
    Calls Tryz.prog 76 #[.iface 70 (.pointer (some ⟨p, 0, none⟩))] w fun e w' => e = .returned (.tuple #[.int .i64 0, .bool false]) ∧ Below w.heap.size w w' := by
  have f1 := lacks88_181
  have f2 := not88_41
  go_enter_defers Tryz.func76, Tryz.ntmps76
  go_wp2
  refine leaves_cons (f := 100) (args := #[]) (by simp) (by simp [go_sem]) ?_
  refine (rec128 _).mono ?_
  rintro e u' w'' ⟨rfl, rfl, rfl⟩
  simp only [Leaves, settle]
  exact ⟨.tuple #[.int .i64 0, .bool false], by simp [results, Tryz.results76, go_sem], rfl, Below.refl _ _⟩
set_option maxHeartbeats 2000000 in
theorem own124_fail (p : Nat) (w : World) (hE : Ety w) :
    Calls Tryz.prog 108 #[.iface 70 (.pointer (some ⟨p, 0, none⟩))] w fun e w' => e = .returned (.tuple #[.pointer (some ⟨p, 0, none⟩), .bool true]) ∧ Below w.heap.size w w' := by
  have f1 := is88_88
  go_enter_defers Tryz.func108, Tryz.ntmps108
  go_wp2_with fail
  refine (as_fail ⟨w.heap.size, 0, none⟩ ⟨p, 0, none⟩ _ _ (hE.later (bel1 _ _)) ((At.box w #[.pointer none] 70).2 0 _ rfl).1 ((At.box w #[.pointer none] 70).2 0 _ rfl).2).mono ?_
  rintro e w1 ⟨rfl, hw⟩
  have hc : w1.cell? ⟨w.heap.size, 0, none⟩ = some (.pointer (some ⟨p, 0, none⟩)) := by
    rw [hw]
    refine World.cell?_setCell_same' _ _ _ ?_
    rw [World.cell?_alloc_lt _ _ ⟨w.heap.size, 0, none⟩ (by simp; omega), World.cell?_alloc_lt _ _ ⟨w.heap.size, 0, none⟩ (by simp; omega), World.cell?_alloc_lt _ _ ⟨w.heap.size, 0, none⟩ (by simp; omega), World.cell?_alloc_lt _ _ ⟨w.heap.size, 0, none⟩ (by simp), ((At.box w #[.pointer none] 70).2 0 _ rfl).1]
    rfl
  have hb : Below w.heap.size w w1 := by
    rw [hw]
    exact (((((bel1 w _).alloc (by simp) _).alloc (by simp; omega) _).alloc (by simp; omega) _).alloc (by simp; omega) _).setCell (p := ⟨w.heap.size, 0, none⟩) (Nat.le_refl _) _
  clear hw
  go_wp2
  refine leaves_cons (f := 123) (args := #[]) (by simp) (by simp [go_sem]) ?_
  refine (rec149 _).mono ?_
  rintro e u' w'' ⟨rfl, rfl, rfl⟩
  simp only [Leaves, settle]
  exact ⟨.tuple #[.pointer (some ⟨p, 0, none⟩), .bool true], by simp [results, Tryz.results108, go_sem], rfl, hb⟩
set_option maxHeartbeats 2000000 in
theorem own124_code (c : Int) (w : World) :
    Calls Tryz.prog 108 #[.iface 42 (.int .i64 c)] w fun e w' => e = .returned (.tuple #[.pointer none, .bool false]) ∧ Below w.heap.size w w' := by
  have f1 := lacks41_181
  have f2 := not41_88
  go_enter_defers Tryz.func108, Tryz.ntmps108
  go_wp2
  refine leaves_cons (f := 123) (args := #[]) (by simp) (by simp [go_sem]) ?_
  refine (rec149 _).mono ?_
  rintro e u' w'' ⟨rfl, rfl, rfl⟩
  simp only [Leaves, settle]
  exact ⟨.tuple #[.pointer none, .bool false], by simp [results, Tryz.results108, go_sem], rfl, Below.refl _ _⟩
end Go.Proofs.YtkpdmgoldngdaabGreatDoor

namespace Go.Proofs.YtkpdmgoldngdaabGreatDoor
open Go.RowKit Go.Shelf
attribute [local go_sem] Oper.semAt_some
set_option maxRecDepth 100000
set_option linter.unusedVariables false
set_option linter.unusedSimpArgs false
theorem back_any (a : Option Addr) (len cap : Nat) (w : World) :
    Calls Tryz.prog 115 #[.slice a len cap] w fun e w' => e = .returned (.func (.func 126) #[] #[.pointer (some ⟨w.heap.size, 0, none⟩)]) ∧ w' = w.alloc (.cells #[.slice a len cap] 135) := by
  go_enter Tryz.func115, Tryz.ntmps115
  go_wp2
  go_ret
  exact ⟨rfl, rfl⟩
set_option maxHeartbeats 2000000 in
theorem back_it (n : Nat) (hn : 1 ≤ n) (Bs b off cap : Nat) (k : TypeId) (x : Value) (w : World) (h1 : Bs < w.heap.size) (h2 : b < w.heap.size) (hBs : w.cell? ⟨Bs, 0, none⟩ = some (.slice (some ⟨b, off, none⟩) 1 cap)) (hc : w.cell? ⟨b, off, none⟩ = some (.iface k x)) :
    ItRuns Fence.wide n Tryz.prog 126 #[.pointer (some ⟨Bs, 0, none⟩)] (fun x : Value => #[.int .i64 0, x]) (fun _ _ => True) (fun _ A B => B = A) [.iface k x] w := by
  intro l J Jx W hW hJ hY h0
  have cB := (hW.cell (p := ⟨Bs, 0, none⟩) h1).trans hBs
  have cx := (hW.cell (p := ⟨b, off, none⟩) h2).trans hc
  refine callsIn_of_wp Tryz.func126 rfl trivial ?_ rfl
  simp only [Tryz.ntmps126, List.size_toArray, List.length_cons, List.length_nil, Nat.reduceAdd, Nat.reduceSub, Array.replicate_succ, Array.replicate_zero, List.push_toArray, List.append_toArray, List.nil_append, List.cons_append]
  obtain ⟨f1, t1, a1, b1, hy1, hR1⟩ := hY 0 (.iface k x) W rfl h0
  dsimp only at hy1
  gi_wp2
  refine wpIn_loop_rounds 2 ?_
  rw [roundsIn_succ]
  gi_wp2
  refine hR1.mono ?_
  rintro e W1 (⟨rfl, hJ1, _⟩ | ⟨rfl, hx1⟩)
  · gi_wp2
    rw [roundsIn_succ]
    gi_wp2
    go_end0
    exact ⟨⟨_, rfl⟩, .inl hJ1⟩
  · gi_wp2
    refine bodyPost_ret (results_none rfl _ _ _) rfl ?_
    exact ⟨⟨_, rfl⟩, .inr ⟨0, by simp, hx1⟩⟩
set_option maxHeartbeats 2000000 in
theorem back_it0 (n : Nat) (hn : 1 ≤ n) (Bs b off cap : Nat) (w : World) (h1 : Bs < w.heap.size) (h2 : b < w.heap.size) (hBs : w.cell? ⟨Bs, 0, none⟩ = some (.slice (some ⟨b, off, none⟩) 1 cap)) (hc : w.cell? ⟨b, off, none⟩ = some (.nilIface)) :
    ItRuns Fence.wide n Tryz.prog 126 #[.pointer (some ⟨Bs, 0, none⟩)] (fun x : Value => #[.int .i64 0, x]) (fun _ _ => True) (fun _ A B => B = A) [.nilIface] w := by
  intro l J Jx W hW hJ hY h0
  have cB := (hW.cell (p := ⟨Bs, 0, none⟩) h1).trans hBs
  have cx := (hW.cell (p := ⟨b, off, none⟩) h2).trans hc
  refine callsIn_of_wp Tryz.func126 rfl trivial ?_ rfl
  simp only [Tryz.ntmps126, List.size_toArray, List.length_cons, List.length_nil, Nat.reduceAdd, Nat.reduceSub, Array.replicate_succ, Array.replicate_zero, List.push_toArray, List.append_toArray, List.nil_append, List.cons_append]
  obtain ⟨f1, t1, a1, b1, hy1, hR1⟩ := hY 0 (.nilIface) W rfl h0
  dsimp only at hy1
  gi_wp2
  refine wpIn_loop_rounds 2 ?_
  rw [roundsIn_succ]
  gi_wp2
  refine hR1.mono ?_
  rintro e W1 (⟨rfl, hJ1, _⟩ | ⟨rfl, hx1⟩)
  · gi_wp2
    rw [roundsIn_succ]
    gi_wp2
    go_end0
    exact ⟨⟨_, rfl⟩, .inl hJ1⟩
  · gi_wp2
    refine bodyPost_ret (results_none rfl _ _ _) rfl ?_
    exact ⟨⟨_, rfl⟩, .inr ⟨0, by simp, hx1⟩⟩
end Go.Proofs.YtkpdmgoldngdaabGreatDoor

namespace Go.Proofs.YtkpdmgoldngdaabGreatDoor
open Go.RowKit
theorem wp_round {P : Program} {o : Oper} {a : Act} {w : World} {K : Act → World → Prop} {Q : Exit → Act → World → Prop} (l n : Nat) (hd : ∀ c, o.op ≠ .defer c) (h : o.wp P a w K Q) : o.wpIn (Fence.wide.inRound l) n P a w K Q := by
  refine ⟨fun _ _ => trivial, ?_⟩
  rw [Oper.semAt_eq _ _ _ hd]
  unfold Oper.wp at h
  generalize (execOp a.eval o).run P w = r at h
  cases r with
  | halt x w' => cases x <;> first | exact h | exact h.elim
  | ok x w' =>
    cases x with
    | value v => exact h
    | skip => exact h
    | defer d => exact h
    | enter f args => exact ⟨fun e => (by cases e), CallsIn.inRound l (callsIn_wide.2 h)⟩
    | row r args =>
      refine ⟨fun e => (by cases e), fun c cs _ => ?_⟩
      obtain ⟨v, w'', hr, hs⟩ := h c cs
      exact ⟨v, w'', hr, stepsIn_wide.2 hs⟩
    | _ => exact h.elim
theorem any_round {P : Program} {md : Region.Mode} {ops : Array Oper} {Q : Exit → Act → World → Prop} (l n : Nat) (hQ : ¬ LetsOut Q) (hd : ops.all (fun o => match o.op with | .defer _ => false | _ => true) = true) :
    ∀ (fuel : Nat) (ls : Array Bool) (a : Act) (w : World), wpAny P md ops Q fuel ls a w → wpAnyIn (Fence.wide.inRound l) n P md ops Q fuel ls a w := by
  intro fuel
  induction fuel with
  | zero => exact fun ls a w h => h
  | succ fuel ih =>
    intro ls a w h
    refine ⟨h.1, fun i hi => ?_⟩
    have h2 := wpOp_mono (fun a w => ih _ a w) (h.2 i hi)
    unfold wpOp at h2
    unfold wpOpIn
    cases ho : ops[i]? with
    | none => simp only [ho] at h2 ⊢; exact h2
    | some o =>
      simp only [ho] at h2 ⊢
      have hdo : ∀ c, o.op ≠ .defer c := fun c e => by
        have := Array.all_eq_true_iff_forall_mem.1 hd o (Array.mem_of_getElem? ho)
        rw [e] at this
        cases this
      split
      · rename_i hw
        rw [if_pos hw] at h2
        rcases h2 with h2 | h2
        · exact wp_round l n hdo h2
        · exact (hQ h2.2).elim
      · rename_i hw
        rw [if_neg hw] at h2
        exact ⟨fun _ _ => trivial, h2⟩
theorem wpIn_region_round {P : Program} {ops : Array Oper} {Q : Exit → Act → World → Prop} {id l n : Nat} {a : Act} {w : World} (hm : P.follows .mixedOrders = true) (hQ : ¬ LetsOut Q) (hd : ops.all (fun o => match o.op with | .defer _ => false | _ => true) = true)
    (h : wpAny P .any ops Q ops.size (Array.replicate ops.size false) a { w with drawn := w.drawn + 1 }) : (Code.region id ops true).wpIn (Fence.wide.inRound l) n P Q a w :=
  wpIn_region_any hm (any_round l n hQ hd _ _ _ _ h)
end Go.Proofs.YtkpdmgoldngdaabGreatDoor

namespace Go.Proofs.YtkpdmgoldngdaabGreatDoor
open Go.RowKit Go.Shelf
attribute [local go_sem] Oper.semAt_some
set_option maxRecDepth 100000
set_option linter.unusedVariables false
set_option linter.unusedSimpArgs false
theorem At.put {W : World} {b l : Nat} {vs : Array Value} {o : Obj} (h : At W b vs) (o' : Obj) (hl : W.heap[l]? = some o) (ho : o.isCells = false) : At (W.putObj l o') b vs := by
  refine ⟨by simpa using h.1, fun i v hv => ?_⟩
  have hr : ∀ r, some l = some r → ∃ o : Obj, W.heap[r]? = some o ∧ o.isCells = false := fun r e => by cases e; exact ⟨o, hl, ho⟩
  exact ⟨cell_kept (h.2 i v hv).1 (grownBy_putObj' W l o') hr, (frozen_kept (h.2 i v hv).1 (grownBy_putObj' W l o') hr).trans (h.2 i v hv).2⟩
theorem below_put {N l : Nat} {w W : World} {o : Obj} (h : Below N w W) (o' : Obj) (hl : W.heap[l]? = some o) (hN : N ≤ l) : Below N w (W.putObj l o') :=
  h.trans ((Below.refl N W).grown (grownBy_putObj' W l o') (by have := (Array.getElem?_eq_some_iff.1 hl).1; omega) (fun k e => by cases e; exact hN))
theorem Tryz.info39 : (Tryz.prog.info? 39).map (fun i => (i.zero, i.size, i.bytes)) = some (some .nilIface, 1, 16) := by kernel_rfl
theorem one_news {X : World} {g : Nat} {v : Value} (h0 : X.cell? ⟨g, 0, none⟩ = some v) : ∀ j u, [v][j]? = some u → X.cell? ((⟨g, 0, none⟩ : Addr).add j) = some u := by
  intro j u h
  match j, h with
  | 0, h => simp only [List.getElem?_cons_zero, Option.some.injEq] at h; subst h; exact h0
  | j + 1, h => simp at h
theorem bs174 (k : TypeId) (x : Value) (w : World) : (Instr.buildSlice 135 1 #[(0, .iface k x)]).run Tryz.prog w = .ok (.slice (some ⟨w.heap.size, 0, none⟩) 1 1) (w.alloc (.cells #[.iface k x] 39)) := by
  obtain ⟨i0, hi, hz0, hz1, hz2⟩ := info_parts Tryz.info39
  refine run_buildSlice w 135 39 1 _ _ i0 _ Tryz.underlying135 hi hz0 (by rw [hz1]; decide) (by rw [hz1]; decide) ?_
  rw [hz1]; kernel_rfl
theorem own_cells {w : World} {base : Nat} {e : TypeId} {size n j : Nat} {v : Value} {xs : List Value} {ob : Obj} (h : w.ownsRow base e size v n xs) (ej : v.ownBlock = some j) (hj : w.heap[j]? = some ob) : ob.isCells = true := by
  rcases h.2 with ⟨rfl, _⟩ | ⟨g, cap, cur, rfl, _, hg, _⟩
  · cases ej
  · obtain rfl : g = j := by simpa [Value.ownBlock] using ej
    rw [hg] at hj
    cases hj
    rfl
set_option maxHeartbeats 4000000 in
theorem add_n (N P b : Nat) (g mk : Int) (mp : Value) (la : Option Addr) (lc : Nat) (w : World) (hN : N ≤ P) (hA : At w P #[.slice la 0 lc, .int .i64 g, mp, .int .i64 mk]) (hown : w.ownsRow (P + 1) 39 1 (.slice la 0 lc) 0 []) (hbP : P ≠ b) (hx : At w b #[.nilIface]) (hg0 : 0 ≤ g) (hg1 : g < 1000) :
    Calls Tryz.prog 98 #[.pointer (some ⟨P, 0, none⟩), .slice (some ⟨b, 0, none⟩) 1 1] w fun e w' => e = .returned (.tuple #[]) ∧ (At w' P #[.slice la 0 lc, .int .i64 (g + 1), mp, .int .i64 mk] ∧ w'.ownsRow (P + 1) 39 1 (.slice la 0 lc) 0 []) ∧ Below N w w' := by
  have hla : ∀ q, (Value.slice la 0 lc).ownBlock = some q → q < w.heap.size := fun q e => (hown.lt q e).2
  have c1 := (hA.2 1 _ rfl).1
  have z1 := (hA.2 1 _ rfl).2
  have hP := hA.1
  refine (callsIn_wide (n := 5)).1 ?_
  refine callsIn_of_wp_marks Tryz.func98 rfl trivial ?_ rfl
  simp only [Tryz.ntmps98, List.size_toArray, List.length_cons, List.length_nil, Nat.reduceAdd, Nat.reduceSub, Array.replicate_succ, Array.replicate_zero, List.push_toArray, List.append_toArray, List.nil_append, List.cons_append]
  gi_wp2_with (refine ⟨trivial, ?_⟩; gi_at_call 115; refine (callsIn_wide.2 (back_any _ _ _ _)).mono ?_; rintro e w' ⟨rfl, rfl⟩)
  have hs0 : (w.setCell ⟨P, 1, none⟩ (.int .i64 (g + 1))).heap.size = w.heap.size := by simp
  have hA1 : At (w.setCell ⟨P, 1, none⟩ (.int .i64 (g + 1))) P #[.slice la 0 lc, .int .i64 (g + 1), mp, .int .i64 mk] := hA.set 1 _
  have hr1 := own_setCell hown P 1 (.int .i64 (g + 1)) (Nat.lt_succ_self P)
  have hb1 : Below N w (w.setCell ⟨P, 1, none⟩ (.int .i64 (g + 1))) := (Below.refl N w).setCell (p := ⟨P, 1, none⟩) hN _
  have hx1 := hx.keep hbP 1 (.int .i64 (g + 1))
  have hB2 := At.box (w.setCell ⟨P, 1, none⟩ (.int .i64 (g + 1))) #[.pointer (some ⟨P, 0, none⟩)] 188
  rw [hs0] at hB2
  generalize hwa : w.setCell ⟨P, 1, none⟩ (.int .i64 (g + 1)) = wa at *
  have k1 := bel1 wa (.cells #[.pointer (some ⟨P, 0, none⟩)] 188)
  have k2 := bel1 (wa.alloc (.cells #[.pointer (some ⟨P, 0, none⟩)] 188)) (.cells #[.slice (some ⟨b, 0, none⟩) 1 1] 135)
  have hBs := At.box2 wa (.cells #[.pointer (some ⟨P, 0, none⟩)] 188) #[.slice (some ⟨b, 0, none⟩) 1 1] 135
  have k := bt k1 k2
  have hB2' := hB2.later k2
  have hsz : ((wa.alloc (.cells #[.pointer (some ⟨P, 0, none⟩)] 188)).alloc (.cells #[.slice (some ⟨b, 0, none⟩) 1 1] 135)).heap.size = w.heap.size + 2 := by simp; omega
  rw [hs0] at hBs
  generalize hw' : (wa.alloc (.cells #[.pointer (some ⟨P, 0, none⟩)] 188)).alloc (.cells #[.slice (some ⟨b, 0, none⟩) 1 1] 135) = w' at *
  have hA2 := hA1.later k
  have hx2 := hx1.later k
  have hr2 := own_later hr1 k
  have hbW : Below N w w' := hb1.trans (k.mono (by omega))
  clear hw' k k1 k2 hA1 hx1 hr1 hb1 hB2 hA hown hx c1 z1
  clear hwa hs0
  obtain ⟨W0, hW0⟩ : ∃ x, x = w' := ⟨w', rfl⟩
  subst hW0
  refine wpIn_range_it (α := Value) rfl (by omega) (gf := 126) (lb := #[.pointer (some ⟨w.heap.size + 1, 0, none⟩)]) rfl trivial (enters_of Tryz.func126 (by kernel_rfl) rfl)
    (back_it0 (5 - 1) (by omega) (w.heap.size + 1) b 0 1 W0 (by omega) hx2.1 (hBs.2 0 _ rfl).1 (hx2.2 0 _ rfl).1) (Below.refl _ _) (fun _ => rfl)
    (fun i W => (i = 0 ∧ (At W P #[.slice la 0 lc, .int .i64 (g + 1), mp, .int .i64 mk] ∧ W.ownsRow (P + 1) 39 1 (.slice la 0 lc) 0 []) ∧ At W w.heap.size #[.pointer (some ⟨P, 0, none⟩)] ∧ Below N w W) ∨ (i = 1 ∧ (At W P #[.slice la 0 lc, .int .i64 (g + 1), mp, .int .i64 mk] ∧ W.ownsRow (P + 1) 39 1 (.slice la 0 lc) 0 []) ∧ Below N w W)) (fun _ _ => False)
    (.inl ⟨rfl, ⟨hA2, hr2⟩, hB2', hbW⟩) (fun i s A B _ h e => by subst e; exact h) (fun s k A B o _ h _ e => by subst e; exact h) ?al ?pu (fun _ _ _ _ _ _ _ _ h => h) (Bd := fun _ _ => True) (fun _ _ _ _ _ _ _ => trivial)
    (fun x => { tmps := #[.pointer (some ⟨P, 0, none⟩), .slice (some ⟨b, 0, none⟩) 1 1, .pointer (some ⟨w.heap.size, 0, none⟩), undef, undef, x, .pointer (some ⟨P, 0, none⟩), .pointer (some ⟨P, 0, none⟩), .pointer (some ⟨P, 1, none⟩), .int .i64 g, .slice (some ⟨b, 0, none⟩) 1 1, .int .i64 1, .int .i64 (g + 1), .pointer (some ⟨P, 0, none⟩), .pointer (some ⟨P, 1, none⟩), .slice (some ⟨b, 0, none⟩) 1 1, .func (.func 126) #[] #[.pointer (some ⟨w.heap.size + 1, 0, none⟩)], .int .i64 0, x, undef, undef, undef, undef, undef, undef, undef, undef, undef, undef, undef, undef], defers := [] }) ?assign ?body ?done ?stop
  case al =>
    rintro i A o (⟨rfl, ⟨h1, h2⟩, h3, h4⟩ | ⟨rfl, ⟨h1, h2⟩, h4⟩)
    · exact .inl ⟨rfl, ⟨h1.later (bel1 _ _), own_later h2 (bel1 _ _)⟩, h3.later (bel1 _ _), h4.trans ((bel1 _ _).mono (by have := h3.1; omega))⟩
    · exact .inr ⟨rfl, ⟨h1.later (bel1 _ _), own_later h2 (bel1 _ _)⟩, h4.trans ((bel1 _ _).mono (by have := h1.1; omega))⟩
  case pu =>
    rintro i A l o o' hl ho hc (⟨rfl, ⟨h1, h2⟩, h3, h4⟩ | ⟨rfl, ⟨h1, h2⟩, h4⟩)
    · exact .inl ⟨rfl, ⟨h1.put o' ho hc, ownsRow_putObj h2 o' ho hc⟩, h3.put o' ho hc, below_put h4 o' ho (by omega)⟩
    · exact .inr ⟨rfl, ⟨h1.put o' ho hc, ownsRow_putObj h2 o' ho hc⟩, below_put h4 o' ho (by omega)⟩
  case assign =>
    intro l x W K hK
    gi_wp2
    exact hK
  case body =>
    rintro l i y W hy hsw (⟨rfl, ⟨h1, h2⟩, h3, h4⟩ | ⟨rfl, _⟩)
    · obtain rfl : .nilIface = y := by simpa using hy
      have cp := (h3.2 0 _ rfl).1
      have cl := (h1.2 0 _ rfl).1
      have zl := (h1.2 0 _ rfl).2
      gi_wp2
      exact ⟨KeepsFrom.refl _ _, trivial, .inr ⟨rfl, ⟨h1, h2⟩, h4⟩⟩
    · simp at hy
  case done =>
    rintro D W hD (⟨h0, _⟩ | ⟨_, ⟨h1, h2⟩, h4⟩) hK
    · simp at h0
    · gi_wp2
      refine ⟨by simp, .inl ⟨_, _, rfl, run_takeDeferred hK, ?_⟩⟩
      exact ⟨_, results_none rfl _ _ _, rfl, ⟨h1.put _ hK rfl, ownsRow_putObj h2 _ hK rfl⟩, below_put h4 _ hK (by omega)⟩
  case stop =>
    rintro D i W _ _ h _
    exact h.elim
set_option maxHeartbeats 4000000 in
theorem add_s (N P b : Nat) (g mk : Int) (mp : Value) (la : Option Addr) (lc : Nat) (k : TypeId) (x : Value) (w : World) (hN : N ≤ P) (hA : At w P #[.slice la 0 lc, .int .i64 g, mp, .int .i64 mk]) (hown : w.ownsRow (P + 1) 39 1 (.slice la 0 lc) 0 []) (hbP : P ≠ b) (hx : At w b #[.iface k x]) (hg0 : 0 ≤ g) (hg1 : g < 1000) :
    Calls Tryz.prog 98 #[.pointer (some ⟨P, 0, none⟩), .slice (some ⟨b, 0, none⟩) 1 1] w fun e w' => e = .returned (.tuple #[]) ∧ (∃ gg cap : Nat, At w' P #[.slice (some ⟨gg, 0, none⟩) 1 cap, .int .i64 (g + 1), mp, .int .i64 mk] ∧ w'.ownsRow (P + 1) 39 1 (.slice (some ⟨gg, 0, none⟩) 1 cap) 1 [.iface k x]) ∧ Below N w w' := by
  have hla : ∀ q, (Value.slice la 0 lc).ownBlock = some q → q < w.heap.size := fun q e => (hown.lt q e).2
  have c1 := (hA.2 1 _ rfl).1
  have z1 := (hA.2 1 _ rfl).2
  have hP := hA.1
  refine (callsIn_wide (n := 5)).1 ?_
  refine callsIn_of_wp_marks Tryz.func98 rfl trivial ?_ rfl
  simp only [Tryz.ntmps98, List.size_toArray, List.length_cons, List.length_nil, Nat.reduceAdd, Nat.reduceSub, Array.replicate_succ, Array.replicate_zero, List.push_toArray, List.append_toArray, List.nil_append, List.cons_append]
  gi_wp2_with (refine ⟨trivial, ?_⟩; gi_at_call 115; refine (callsIn_wide.2 (back_any _ _ _ _)).mono ?_; rintro e w' ⟨rfl, rfl⟩)
  have hs0 : (w.setCell ⟨P, 1, none⟩ (.int .i64 (g + 1))).heap.size = w.heap.size := by simp
  have hA1 : At (w.setCell ⟨P, 1, none⟩ (.int .i64 (g + 1))) P #[.slice la 0 lc, .int .i64 (g + 1), mp, .int .i64 mk] := hA.set 1 _
  have hr1 := own_setCell hown P 1 (.int .i64 (g + 1)) (Nat.lt_succ_self P)
  have hb1 : Below N w (w.setCell ⟨P, 1, none⟩ (.int .i64 (g + 1))) := (Below.refl N w).setCell (p := ⟨P, 1, none⟩) hN _
  have hx1 := hx.keep hbP 1 (.int .i64 (g + 1))
  have hB2 := At.box (w.setCell ⟨P, 1, none⟩ (.int .i64 (g + 1))) #[.pointer (some ⟨P, 0, none⟩)] 188
  rw [hs0] at hB2
  generalize hwa : w.setCell ⟨P, 1, none⟩ (.int .i64 (g + 1)) = wa at *
  have k1 := bel1 wa (.cells #[.pointer (some ⟨P, 0, none⟩)] 188)
  have k2 := bel1 (wa.alloc (.cells #[.pointer (some ⟨P, 0, none⟩)] 188)) (.cells #[.slice (some ⟨b, 0, none⟩) 1 1] 135)
  have hBs := At.box2 wa (.cells #[.pointer (some ⟨P, 0, none⟩)] 188) #[.slice (some ⟨b, 0, none⟩) 1 1] 135
  have k := bt k1 k2
  have hB2' := hB2.later k2
  have hsz : ((wa.alloc (.cells #[.pointer (some ⟨P, 0, none⟩)] 188)).alloc (.cells #[.slice (some ⟨b, 0, none⟩) 1 1] 135)).heap.size = w.heap.size + 2 := by simp; omega
  rw [hs0] at hBs
  generalize hw' : (wa.alloc (.cells #[.pointer (some ⟨P, 0, none⟩)] 188)).alloc (.cells #[.slice (some ⟨b, 0, none⟩) 1 1] 135) = w' at *
  have hA2 := hA1.later k
  have hx2 := hx1.later k
  have hr2 := own_later hr1 k
  have hbW : Below N w w' := hb1.trans (k.mono (by omega))
  clear hw' k k1 k2 hA1 hx1 hr1 hb1 hB2 hA hown hx c1 z1
  clear hwa hs0
  obtain ⟨W0, hW0⟩ : ∃ x, x = w' := ⟨w', rfl⟩
  subst hW0
  refine wpIn_range_it (α := Value) rfl (by omega) (gf := 126) (lb := #[.pointer (some ⟨w.heap.size + 1, 0, none⟩)]) rfl trivial (enters_of Tryz.func126 (by kernel_rfl) rfl)
    (back_it (5 - 1) (by omega) (w.heap.size + 1) b 0 1 k x W0 (by omega) hx2.1 (hBs.2 0 _ rfl).1 (hx2.2 0 _ rfl).1) (Below.refl _ _) (fun _ => rfl)
    (fun i W => (i = 0 ∧ (At W P #[.slice la 0 lc, .int .i64 (g + 1), mp, .int .i64 mk] ∧ W.ownsRow (P + 1) 39 1 (.slice la 0 lc) 0 []) ∧ At W w.heap.size #[.pointer (some ⟨P, 0, none⟩)] ∧ Below N w W) ∨ (i = 1 ∧ (∃ gg cap : Nat, At W P #[.slice (some ⟨gg, 0, none⟩) 1 cap, .int .i64 (g + 1), mp, .int .i64 mk] ∧ W.ownsRow (P + 1) 39 1 (.slice (some ⟨gg, 0, none⟩) 1 cap) 1 [.iface k x]) ∧ Below N w W)) (fun _ _ => False)
    (.inl ⟨rfl, ⟨hA2, hr2⟩, hB2', hbW⟩) (fun i s A B _ h e => by subst e; exact h) (fun s k A B o _ h _ e => by subst e; exact h) ?al ?pu (fun _ _ _ _ _ _ _ _ h => h) (Bd := fun _ _ => True) (fun _ _ _ _ _ _ _ => trivial)
    (fun x => { tmps := #[.pointer (some ⟨P, 0, none⟩), .slice (some ⟨b, 0, none⟩) 1 1, .pointer (some ⟨w.heap.size, 0, none⟩), undef, undef, x, .pointer (some ⟨P, 0, none⟩), .pointer (some ⟨P, 0, none⟩), .pointer (some ⟨P, 1, none⟩), .int .i64 g, .slice (some ⟨b, 0, none⟩) 1 1, .int .i64 1, .int .i64 (g + 1), .pointer (some ⟨P, 0, none⟩), .pointer (some ⟨P, 1, none⟩), .slice (some ⟨b, 0, none⟩) 1 1, .func (.func 126) #[] #[.pointer (some ⟨w.heap.size + 1, 0, none⟩)], .int .i64 0, x, undef, undef, undef, undef, undef, undef, undef, undef, undef, undef, undef, undef], defers := [] }) ?assign ?body ?done ?stop
  case al =>
    rintro i A o (⟨rfl, ⟨h1, h2⟩, h3, h4⟩ | ⟨rfl, ⟨gg, cap, h1, h2⟩, h4⟩)
    · exact .inl ⟨rfl, ⟨h1.later (bel1 _ _), own_later h2 (bel1 _ _)⟩, h3.later (bel1 _ _), h4.trans ((bel1 _ _).mono (by have := h3.1; omega))⟩
    · exact .inr ⟨rfl, ⟨gg, cap, h1.later (bel1 _ _), own_later h2 (bel1 _ _)⟩, h4.trans ((bel1 _ _).mono (by have := h1.1; omega))⟩
  case pu =>
    rintro i A l o o' hl ho hc (⟨rfl, ⟨h1, h2⟩, h3, h4⟩ | ⟨rfl, ⟨gg, cap, h1, h2⟩, h4⟩)
    · exact .inl ⟨rfl, ⟨h1.put o' ho hc, ownsRow_putObj h2 o' ho hc⟩, h3.put o' ho hc, below_put h4 o' ho (by omega)⟩
    · exact .inr ⟨rfl, ⟨gg, cap, h1.put o' ho hc, ownsRow_putObj h2 o' ho hc⟩, below_put h4 o' ho (by omega)⟩
  case assign =>
    intro l x W K hK
    gi_wp2
    exact hK
  case body =>
    rintro l i y W hy hsw (⟨rfl, ⟨h1, h2⟩, h3, h4⟩ | ⟨rfl, _⟩)
    · obtain rfl : .iface k x = y := by simpa using hy
      have cp := (h3.2 0 _ rfl).1
      have cl := (h1.2 0 _ rfl).1
      have zl := (h1.2 0 _ rfl).2
      obtain ⟨i0, hi, hz0, hz1, hz2⟩ := info_parts Tryz.info39
      have HI : Hid (Tryz.prog.info? 39 = some i0 ∧ i0.zero = some .nilIface ∧ i0.size = 1 ∧ i0.bytes = 16) := ⟨hi, hz0, hz1, hz2⟩
      have H1 : Hid (At W P #[.slice la 0 lc, .int .i64 (g + 1), mp, .int .i64 mk]) := h1
      have H2 : Hid (W.ownsRow (P + 1) 39 1 (.slice la 0 lc) 0 []) := h2
      have H3 : Hid (At W w.heap.size #[.pointer (some ⟨P, 0, none⟩)]) := h3
      clear hi hz0 hz1 hz2 h1 h2 h3 cp cl zl
      gi_wp2
      refine wpIn_region_round (by kernel_rfl) (fun ⟨_, _, h⟩ => h) (by kernel_rfl) ?_
      refine region_facts_two (fun X => Below W.heap.size W X) (GE (fun q => match q with | 0 => .pointer (some ⟨P, 0, none⟩) | 1 => .pointer (some ⟨P, 0, none⟩) | 2 => .pointer (some ⟨P, 0, none⟩) | 3 => .pointer (some ⟨P, 0, none⟩) | 4 => .slice la 0 lc | 5 => .iface k x | _ => undef) (fun q => match q with | 6 => some (fun v X => ∃ g9, v = .slice (some ⟨g9, 0, none⟩) 1 1 ∧ At X g9 #[.iface k x]) | _ => none)) (n := 31) 7 0 8 (by decide) (by decide) (by kernel_rfl) (by kernel_rfl) rfl (by kernel_rfl) (GE_later _ _ (by
        intro q F hF v w w' h hb
        match q, hF with
        | 6, hF =>
          obtain rfl := Option.some.inj hF
          obtain ⟨g9, hg, h9⟩ := h
          exact ⟨g9, hg, h9.later hb⟩)) ?_ ?_ ((Below.refl _ _).drew) (Nat.le_refl _)
      · refine ⟨?_, ?_, ?_, ?_, ?_, ?_, ?_, trivial⟩
        · intro ac w1 hS hT hB hD K hK
          rw [if_pos (by rfl)]
          have d2 : ac.tmps.getD 2 undef = .pointer (some ⟨w.heap.size, 0, none⟩) := hB 2 (by kernel_rfl)
          have hc := ((H3.out.later hS).2 0 _ rfl).1
          clear hB hD hT
          go_simp
          exact hK _ _ hS (Below.refl _ _) rfl
        · intro ac w1 hS hT hB hD K hK
          rw [if_pos (by rfl)]
          have d2 : ac.tmps.getD 2 undef = .pointer (some ⟨w.heap.size, 0, none⟩) := hB 2 (by kernel_rfl)
          have hc := ((H3.out.later hS).2 0 _ rfl).1
          clear hB hD hT
          go_simp
          exact hK _ _ hS (Below.refl _ _) rfl
        · intro ac w1 hS hT hB hD K hK
          rw [if_pos (by rfl)]
          have d22 : ac.tmps.getD 22 undef = .pointer (some ⟨P, 0, none⟩) := hD ⟨1, .data⟩ (by simp) rfl _ 22 rfl rfl
          clear hB hD hT
          go_simp
          exact hK _ _ hS (Below.refl _ _) rfl
        · intro ac w1 hS hT hB hD K hK
          rw [if_pos (by rfl)]
          have d23 : ac.tmps.getD 23 undef = .pointer (some ⟨P, 0, none⟩) := hD ⟨2, .data⟩ (by simp) rfl _ 23 rfl rfl
          clear hB hD hT
          go_simp
          exact hK _ _ hS (Below.refl _ _) rfl
        · intro ac w1 hS hT hB hD K hK
          rw [if_pos (by rfl)]
          have d24 : ac.tmps.getD 24 undef = .pointer (some ⟨P, 0, none⟩) := hD ⟨3, .data⟩ (by simp) rfl _ 24 rfl rfl
          have hc := ((H1.out.later hS).2 0 _ rfl).1
          clear hB hD hT
          go_simp
          exact hK _ _ hS (Below.refl _ _) rfl
        · intro ac w1 hS hT hB hD K hK
          rw [if_pos (by rfl)]
          have d5 : ac.tmps.getD 5 undef = .iface k x := hB 5 (by kernel_rfl)
          clear hB hD hT
          go_simp
          exact hK _ _ hS (Below.refl _ _) rfl
        · intro ac w1 hS hT hB hD K hK
          rw [if_pos (by rfl)]
          have d26 : ac.tmps.getD 26 undef = .iface k x := hD ⟨5, .data⟩ (by simp) rfl _ 26 rfl rfl
          clear hB hD hT
          exact wp_bslice1 135 39 (.tmp 26) _ _ rfl d26 (bs174 k x _) (hK _ _ (bt hS (bel1 _ _)) (bel1 _ _) ⟨_, rfl, At.box w1 #[.iface k x] 39⟩)
      · intro ac w1 zl hS hT hdf hB hF
        obtain ⟨⟨T⟩, df⟩ := ac
        match T, hT with
        | [x0, x1, x2, x3, x4, x5, x6, x7, x8, x9, x10, x11, x12, x13, x14, x15, x16, x17, x18, x19, x20, x21, x22, x23, x24, x25, x26, x27, x28, x29, x30], _ =>
        have s2 : x2 = .pointer (some ⟨w.heap.size, 0, none⟩) := hB 2 (by kernel_rfl)
        have s25 : x25 = .slice la 0 lc := hF 4 _ 25 (by decide) (fun h => by cases h) rfl rfl
        obtain ⟨g9, s27, h9⟩ : ∃ g9, x27 = .slice (some ⟨g9, 0, none⟩) 1 1 ∧ At w1 g9 #[.iface k x] := hF 6 _ 27 (by decide) (fun h => by cases h) rfl rfl
        have s21 : zl = true → x21 = .pointer (some ⟨P, 0, none⟩) := fun h => hF 0 _ 21 (by decide) (fun _ => h) rfl rfl
        have sdf : df = [] := hdf
        clear hB hF hdf
        subst s2 s25 s27 sdf
        refine wpOp_step (by rfl) fun Kc hKc => ?_
        rw [if_pos (by rfl)]
        have hown1 := own_later H2.out hS
        have hPs : P + 1 ≤ w1.heap.size := by have := (H1.out.later hS).1; omega
        refine wp_append_own w1 (.tmp 25) (.tmp 27) 135 (by rfl) (P + 1) 39 i0 .nilIface 1 16 Tryz.underlying135 HI.out.1 HI.out.2.1 HI.out.2.2.1 HI.out.2.2.2 rfl (by decide) (.slice la 0 lc) 0 [] (by rfl) hown1 ⟨g9, 0, none⟩ 1 1 [.iface k x] (by rfl) rfl (one_news (h9.2 0 _ rfl).1) (by simp [Value.oneCell']) (by unfold maxLen; omega) (by omega) hPs ?_
        intro v9 w9 hown9 hgrow9 hnil9
        have hbg : Below (P + 1) w1 w9 := (Below.refl _ _).grown hgrow9 hPs (fun q e => (hown1.lt q e).1)
        have hA9 := (H1.out.later hS).below hbg (Nat.lt_succ_self P)
        have hb9 : Below N w w9 := (h4.trans (hS.mono (by have := H1.out.1; omega))).trans (hbg.mono (by omega))
        have hkf : KeepsFrom W0.heap.size W w9 := ((keepsFrom_of_below hS).trans ((KeepsOthers.of_grownBy hgrow9 (fun j ob ej hj => own_cells hown1 ej hj)).from _))
        have hcp : W.heap.size ≤ w9.heap.size := Nat.le_trans hS.size hbg.size
        have hc9 : zl = false → w9.cell? ⟨w.heap.size, 0, none⟩ = some (.pointer (some ⟨P, 0, none⟩)) := fun _ => by
          have hk := (H3.out.later hS)
          refine Eq.trans (World.cell?_of_block (hgrow9.block w.heap.size hk.1 ?_)) (hk.2 0 _ rfl).1
          intro e
          have := hla _ e.symm
          omega
        replace hown9 : w9.ownsRow (P + 1) 39 1 v9 1 [.iface k x] := hown9
        obtain ⟨gg, cap, rfl⟩ := ownsRow_succ hown9
        have cl := (hA9.2 0 _ rfl).1
        have zl9 := (hA9.2 0 _ rfl).2
        apply hKc
        clear hKc Kc
        clear hS hown1 hPs hgrow9 hnil9 hbg hcp h9
        cases zl
        · clear s21
          have hcb := hc9 rfl
          clear hc9
          refine any_one (i := 0) (by kernel_rfl) (by rfl) ?_
          intro Kc hKc
          rw [if_pos (by rfl)]
          go_simp
          apply hKc
          clear hKc Kc
          refine any_one (i := 8) (by kernel_rfl) (by rfl) ?_
          intro Kc hKc
          rw [if_pos (by rfl)]
          go_simp
          apply hKc
          clear hKc Kc
          refine any_one (i := 9) (by kernel_rfl) (by rfl) ?_
          intro Kc hKc
          rw [if_pos (by rfl)]
          go_simp
          apply hKc
          clear hKc Kc
          refine any_one (i := 10) (by kernel_rfl) (by rfl) ?_
          intro Kc hKc
          rw [if_pos (by rfl)]
          go_simp
          apply hKc
          clear hKc Kc
          refine any_done (by kernel_rfl) ?_
          exact ⟨hkf.trans ((KeepsOthers.setCell _ _ _).from _), trivial, .inr ⟨rfl, ⟨gg, cap, hA9.set 0 _, own_setCell hown9 P 0 _ (Nat.lt_succ_self P)⟩, hb9.setCell (p := ⟨P, 0, none⟩) hN _⟩⟩
        · obtain rfl := s21 rfl
          clear hc9 s21
          refine any_one (i := 8) (by kernel_rfl) (by rfl) ?_
          intro Kc hKc
          rw [if_pos (by rfl)]
          go_simp
          apply hKc
          clear hKc Kc
          refine any_one (i := 9) (by kernel_rfl) (by rfl) ?_
          intro Kc hKc
          rw [if_pos (by rfl)]
          go_simp
          apply hKc
          clear hKc Kc
          refine any_one (i := 10) (by kernel_rfl) (by rfl) ?_
          intro Kc hKc
          rw [if_pos (by rfl)]
          go_simp
          apply hKc
          clear hKc Kc
          refine any_done (by kernel_rfl) ?_
          exact ⟨hkf.trans ((KeepsOthers.setCell _ _ _).from _), trivial, .inr ⟨rfl, ⟨gg, cap, hA9.set 0 _, own_setCell hown9 P 0 _ (Nat.lt_succ_self P)⟩, hb9.setCell (p := ⟨P, 0, none⟩) hN _⟩⟩
    · simp at hy
  case done =>
    rintro D W hD (⟨h0, _⟩ | ⟨_, ⟨gg, cap, h1, h2⟩, h4⟩) hK
    · simp at h0
    · gi_wp2
      refine ⟨by simp, .inl ⟨_, _, rfl, run_takeDeferred hK, ?_⟩⟩
      exact ⟨_, results_none rfl _ _ _, rfl, ⟨gg, cap, h1.put _ hK rfl, ownsRow_putObj h2 _ hK rfl⟩, below_put h4 _ hK (by omega)⟩
  case stop =>
    rintro D i W _ _ h _
    exact h.elim
end Go.Proofs.YtkpdmgoldngdaabGreatDoor

namespace Go.Proofs.YtkpdmgoldngdaabGreatDoor
open Go.RowKit
set_option maxRecDepth 100000
set_option linter.unusedVariables false
set_option linter.unusedSimpArgs false
theorem bk_any (P : Nat) (g mk m : Int) (lv mp : Value) (kx : TypeId) (x : Value) (w : World) (hA : At w P #[lv, .int .i64 g, mp, .int .i64 mk]) (hg : g ≤ 1000) :
    Calls Tryz.prog 117 #[.pointer (some ⟨P, 0, none⟩), .iface kx x, .int .i64 m] w fun e w' => e = .returned (.bool false) ∧ w' = w := by
  have c1 := (hA.2 1 _ rfl).1
  have hg1 : g ≤ 1048576 := by omega
  go_enter Tryz.func117, Tryz.ntmps117
  go_wp2
  go_ret
  exact ⟨rfl, rfl⟩
set_option maxHeartbeats 2000000 in
theorem enter_n (P : Nat) (kx : TypeId) (x : Value) (w : World) (HW : Hid (Calls Tryz.prog 116 #[.iface kx x] w fun e w' => e = .returned (.tuple #[.nilIface, .slice none 0 0]) ∧ w' = w)) :
    Calls Tryz.prog 99 #[.pointer (some ⟨P, 0, none⟩), .iface kx x] w fun e w' => e = .returned (.tuple #[]) ∧ w' = w := by
  go_enter Tryz.func99, Tryz.ntmps99
  go_wp2_with fail
  refine HW.out.mono ?_
  rintro e w1 ⟨rfl, rfl⟩
  go_wp2
  go_end0
  exact ⟨rfl, rfl⟩
set_option maxHeartbeats 2000000 in
theorem enter_s (N P : Nat) (g mk : Int) (mp : Value) (la : Option Addr) (lc : Nat) (k : TypeId) (y : Value) (kx : TypeId) (x : Value) (w : World) (hN : N ≤ P) (hA : At w P #[.slice la 0 lc, .int .i64 g, mp, .int .i64 mk]) (hown : w.ownsRow (P + 1) 39 1 (.slice la 0 lc) 0 []) (hg0 : 0 ≤ g) (hg1 : g < 1000)
    (HW : Hid (Calls Tryz.prog 116 #[.iface kx x] w fun e w' => e = .returned (.tuple #[.iface k y, .slice none 0 0]) ∧ w' = w)) :
    Calls Tryz.prog 99 #[.pointer (some ⟨P, 0, none⟩), .iface kx x] w fun e w' => e = .returned (.tuple #[]) ∧ (∃ gg cap : Nat, At w' P #[.slice (some ⟨gg, 0, none⟩) 1 cap, .int .i64 (g + 1), mp, .int .i64 mk] ∧ w'.ownsRow (P + 1) 39 1 (.slice (some ⟨gg, 0, none⟩) 1 cap) 1 [.iface k y]) ∧ Below N w w' := by
  have hP := hA.1
  have hbx := At.box w #[.iface k y] 39
  have HS : Hid (Calls Tryz.prog 98 #[.pointer (some ⟨P, 0, none⟩), .slice (some ⟨w.heap.size, 0, none⟩) 1 1] (w.alloc (.cells #[.iface k y] 39)) fun e w' => e = .returned (.tuple #[]) ∧ (∃ gg cap : Nat, At w' P #[.slice (some ⟨gg, 0, none⟩) 1 cap, .int .i64 (g + 1), mp, .int .i64 mk] ∧ w'.ownsRow (P + 1) 39 1 (.slice (some ⟨gg, 0, none⟩) 1 cap) 1 [.iface k y]) ∧ Below N (w.alloc (.cells #[.iface k y] 39)) w') :=
    add_s N P w.heap.size g mk mp la lc k y _ hN (hA.later (bel1 _ _)) (own_later hown (bel1 _ _)) (by omega) hbx hg0 hg1
  have HB : Hid (Calls Tryz.prog 117 #[.pointer (some ⟨P, 0, none⟩), .iface kx x, .int .i64 1] w fun e w' => e = .returned (.bool false) ∧ w' = w) := bk_any P g mk 1 _ mp kx x w hA (by omega)
  have hbl : Below N w (w.alloc (.cells #[.iface k y] 39)) := (bel1 w _).mono (by omega)
  have hbs := bs174 k y w
  clear hbx hA hown
  go_enter Tryz.func99, Tryz.ntmps99
  go_wp2_with fail
  refine HW.out.mono ?_
  rintro e w1 ⟨rfl, rfl⟩
  clear HW
  go_wp2_with fail
  refine HB.out.mono ?_
  rintro e w2 ⟨rfl, rfl⟩
  clear HB
  go_wp2_with fail
  refine HS.out.mono ?_
  rintro e w3 ⟨rfl, h1, h2⟩
  clear HS
  go_wp2
  go_end0
  exact ⟨rfl, h1, hbl.trans h2⟩
end Go.Proofs.YtkpdmgoldngdaabGreatDoor

namespace Go.Proofs.YtkpdmgoldngdaabGreatDoor
open Go.RowKit Go.Shelf
attribute [local go_sem] Oper.semAt_some
set_option maxRecDepth 100000
set_option linter.unusedVariables false
set_option linter.unusedSimpArgs false
def ChainOf (w : World) (xs : List Value) : Prop := xs.length ≤ 500 ∧ ∀ i x, xs[i]? = some x → (∃ k v, x = .iface k v) ∧ ∀ W, Below w.heap.size w W → Calls Tryz.prog 116 #[x] W fun e w' => e = .returned (.tuple #[xs[i + 1]?.getD .nilIface, .slice none 0 0]) ∧ w' = W
theorem own_pop {w : World} {base : Nat} {e : TypeId} {g cap : Nat} {x : Value} (h : w.ownsRow base e 1 (.slice (some ⟨g, 0, none⟩) 1 cap) 1 [x]) : w.ownsRow base e 1 (.slice (some ⟨g, 0, none⟩) 0 cap) 0 [] := by
  rcases h.2 with ⟨h, _⟩ | ⟨g', cap', cur, hv, hb, hg, h1, h2, h3, _⟩
  · cases h
  · cases hv
    exact ⟨rfl, .inr ⟨g, cap, cur, rfl, hb, hg, Nat.zero_le _, h2, h3, by simp⟩⟩
theorem own_first {w : World} {base : Nat} {e : TypeId} {g cap : Nat} {x : Value} (h : w.ownsRow base e 1 (.slice (some ⟨g, 0, none⟩) 1 cap) 1 [x]) : w.cell? ⟨g, 0, none⟩ = some x ∧ 1 ≤ cap ∧ base ≤ g := by
  rcases h.2 with ⟨h, _⟩ | ⟨g', cap', cur, hv, hb, hg, h1, h2, h3, h4⟩
  · cases h
  · cases hv
    refine ⟨?_, h1, hb⟩
    have : cur.toList[0]? = some x := by
      have : (cur.toList.take (1 * 1))[0]? = some x := by rw [h4]; rfl
      simpa using this
    simp only [World.cell?, hg]
    simpa using this
theorem bs174n (w : World) : (Instr.buildSlice 135 1 #[(0, .nilIface)]).run Tryz.prog w = .ok (.slice (some ⟨w.heap.size, 0, none⟩) 1 1) (w.alloc (.cells #[.nilIface] 39)) := by
  obtain ⟨i0, hi, hz0, hz1, hz2⟩ := info_parts Tryz.info39
  refine run_buildSlice w 135 39 1 _ _ i0 _ Tryz.underlying135 hi hz0 (by rw [hz1]; decide) (by rw [hz1]; decide) ?_
  rw [hz1]; kernel_rfl
def leftOf (P n : Nat) (wr : World) : Nat := (match wr.cell? ⟨P, 1, none⟩ with | some (.int _ g) => 2 * (n - g.toNat) | _ => 0) + (match wr.cell? ⟨P, 0, none⟩ with | some (.slice _ m _) => m | _ => 0)
theorem leftOf_at {P n : Nat} {wr : World} {la : Option Addr} {m lc : Nat} {g : Int} {mp mk : Value} (h : At wr P #[.slice la m lc, .int .i64 g, mp, mk]) : leftOf P n wr = 2 * (n - g.toNat) + m := by
  unfold leftOf
  rw [(h.2 0 _ rfl).1, (h.2 1 _ rfl).1]
  rfl
set_option maxHeartbeats 4000000 in
theorem inside_it (n : Nat) (Be : Nat) (xs : List Value) (w : World) (hBe : At w Be #[xs[0]?.getD .nilIface]) (hch : ChainOf w xs) :
    ItRuns Fence.wide n Tryz.prog 97 #[.pointer (some ⟨Be, 0, none⟩)] (fun x : Value => #[x]) (fun A B => Below A.heap.size A B) (fun s A B => Below s A B) xs w := by
  intro l J Jx W hW hJ hY h0
  have hE := hBe.later hW
  have ce := (hE.2 0 _ rfl).1
  refine callsIn_of_wp Tryz.func97 rfl trivial ?_ rfl
  simp only [Tryz.ntmps97, List.size_toArray, List.length_cons, List.length_nil, Nat.reduceAdd, Nat.reduceSub, Array.replicate_succ, Array.replicate_zero, List.push_toArray, List.append_toArray, List.nil_append, List.cons_append]
  have hmm := @run_makeMap Tryz.prog
  rcases h00 : xs[0]? with _ | x0
  · rw [h00] at hE
    have hl0 : xs.length = 0 := by
      rcases Nat.eq_zero_or_pos xs.length with h | h
      · exact h
      · rw [List.getElem?_eq_getElem h] at h00; cases h00
    have k1 := bel1 W (.map #[] 0)
    have k2 := bel1 (W.alloc (.map #[] 0)) (.cells #[.slice none 0 0, .int .i64 0, .map (some W.heap.size), .int .i64 0] 165)
    have hA := At.box2 W (.map #[] 0) #[.slice none 0 0, .int .i64 0, .map (some W.heap.size), .int .i64 0] 165
    have hb := bt k1 k2
    have ceA := ((hE.later hb).2 0 _ rfl).1
    replace ceA : ((W.alloc (.map #[] 0)).alloc (.cells #[.slice none 0 0, .int .i64 0, .map (some W.heap.size), .int .i64 0] 165)).cell? ⟨Be, 0, none⟩ = some (.nilIface) := ceA
    have hsz : ((W.alloc (.map #[] 0)).alloc (.cells #[.slice none 0 0, .int .i64 0, .map (some W.heap.size), .int .i64 0] 165)).heap.size = W.heap.size + 2 := by simp
    have hbs := bs174n ((W.alloc (.map #[] 0)).alloc (.cells #[.slice none 0 0, .int .i64 0, .map (some W.heap.size), .int .i64 0] 165))
    rw [hsz] at hbs
    have hbx := At.box ((W.alloc (.map #[] 0)).alloc (.cells #[.slice none 0 0, .int .i64 0, .map (some W.heap.size), .int .i64 0] 165)) #[.nilIface] 39
    rw [hsz] at hbx
    have k3 := bel1 ((W.alloc (.map #[] 0)).alloc (.cells #[.slice none 0 0, .int .i64 0, .map (some W.heap.size), .int .i64 0] 165)) (.cells #[.nilIface] 39)
    have HS : Hid (Calls Tryz.prog 98 #[.pointer (some ⟨W.heap.size + 1, 0, none⟩), .slice (some ⟨W.heap.size + 2, 0, none⟩) 1 1] (((W.alloc (.map #[] 0)).alloc (.cells #[.slice none 0 0, .int .i64 0, .map (some W.heap.size), .int .i64 0] 165)).alloc (.cells #[.nilIface] 39)) fun e w' => e = .returned (.tuple #[]) ∧ (At w' (W.heap.size + 1) #[.slice none 0 0, .int .i64 (0 + 1), .map (some W.heap.size), .int .i64 0] ∧ w'.ownsRow (W.heap.size + 1 + 1) 39 1 (.slice none 0 0) 0 []) ∧ Below W.heap.size (((W.alloc (.map #[] 0)).alloc (.cells #[.slice none 0 0, .int .i64 0, .map (some W.heap.size), .int .i64 0] 165)).alloc (.cells #[.nilIface] 39)) w') := add_n W.heap.size (W.heap.size + 1) (W.heap.size + 2) 0 0 _ none 0 _ (by omega) (hA.later k3) ⟨rfl, .inl ⟨rfl, rfl⟩⟩ (by omega) hbx (by omega) (by omega)
    have hb3 : Below W.heap.size W (((W.alloc (.map #[] 0)).alloc (.cells #[.slice none 0 0, .int .i64 0, .map (some W.heap.size), .int .i64 0] 165)).alloc (.cells #[.nilIface] 39)) := hb.trans (k3.mono (by rw [hsz]; omega))
    clear k1 k2 k3 hbx hb hA hsz
    gi_wp2_with fail
    refine ⟨trivial, fun h => (by cases h), (callsIn_wide.2 HS.out).mono ?_⟩
    rintro e w5 ⟨rfl, ⟨hA5, hr5⟩, hb5⟩
    have c0 := (hA5.2 0 _ rfl).1
    have c1 := (hA5.2 1 _ rfl).1
    have hJ5 := hJ 0 W w5 h0 (hb3.trans hb5)
    gi_wp2
    refine wpIn_loop_rounds 1 ?_
    rw [roundsIn_succ]
    gi_wp2
    go_end0
    exact ⟨⟨_, rfl⟩, .inl (by rw [hl0]; exact hJ5)⟩
  · rw [h00] at hE
    obtain ⟨⟨kx, vx, rfl⟩, -⟩ := hch.2 0 x0 h00
    have k1 := bel1 W (.map #[] 0)
    have k2 := bel1 (W.alloc (.map #[] 0)) (.cells #[.slice none 0 0, .int .i64 0, .map (some W.heap.size), .int .i64 0] 165)
    have hA := At.box2 W (.map #[] 0) #[.slice none 0 0, .int .i64 0, .map (some W.heap.size), .int .i64 0] 165
    have hb := bt k1 k2
    have ceA := ((hE.later hb).2 0 _ rfl).1
    replace ceA : ((W.alloc (.map #[] 0)).alloc (.cells #[.slice none 0 0, .int .i64 0, .map (some W.heap.size), .int .i64 0] 165)).cell? ⟨Be, 0, none⟩ = some (.iface kx vx) := ceA
    have hsz : ((W.alloc (.map #[] 0)).alloc (.cells #[.slice none 0 0, .int .i64 0, .map (some W.heap.size), .int .i64 0] 165)).heap.size = W.heap.size + 2 := by simp
    have hbs := bs174 kx vx ((W.alloc (.map #[] 0)).alloc (.cells #[.slice none 0 0, .int .i64 0, .map (some W.heap.size), .int .i64 0] 165))
    rw [hsz] at hbs
    have hbx := At.box ((W.alloc (.map #[] 0)).alloc (.cells #[.slice none 0 0, .int .i64 0, .map (some W.heap.size), .int .i64 0] 165)) #[.iface kx vx] 39
    rw [hsz] at hbx
    have k3 := bel1 ((W.alloc (.map #[] 0)).alloc (.cells #[.slice none 0 0, .int .i64 0, .map (some W.heap.size), .int .i64 0] 165)) (.cells #[.iface kx vx] 39)
    have HS : Hid (Calls Tryz.prog 98 #[.pointer (some ⟨W.heap.size + 1, 0, none⟩), .slice (some ⟨W.heap.size + 2, 0, none⟩) 1 1] (((W.alloc (.map #[] 0)).alloc (.cells #[.slice none 0 0, .int .i64 0, .map (some W.heap.size), .int .i64 0] 165)).alloc (.cells #[.iface kx vx] 39)) fun e w' => e = .returned (.tuple #[]) ∧ (∃ gg cap : Nat, At w' (W.heap.size + 1) #[.slice (some ⟨gg, 0, none⟩) 1 cap, .int .i64 (0 + 1), .map (some W.heap.size), .int .i64 0] ∧ w'.ownsRow (W.heap.size + 1 + 1) 39 1 (.slice (some ⟨gg, 0, none⟩) 1 cap) 1 [.iface kx vx]) ∧ Below W.heap.size (((W.alloc (.map #[] 0)).alloc (.cells #[.slice none 0 0, .int .i64 0, .map (some W.heap.size), .int .i64 0] 165)).alloc (.cells #[.iface kx vx] 39)) w') := add_s W.heap.size (W.heap.size + 1) (W.heap.size + 2) 0 0 _ none 0 kx vx _ (by omega) (hA.later k3) ⟨rfl, .inl ⟨rfl, rfl⟩⟩ (by omega) hbx (by omega) (by omega)
    have hb3 : Below W.heap.size W (((W.alloc (.map #[] 0)).alloc (.cells #[.slice none 0 0, .int .i64 0, .map (some W.heap.size), .int .i64 0] 165)).alloc (.cells #[.iface kx vx] 39)) := hb.trans (k3.mono (by rw [hsz]; omega))
    clear k1 k2 k3 hbx hb hA hsz
    gi_wp2_with fail
    refine ⟨trivial, fun h => (by cases h), (callsIn_wide.2 HS.out).mono ?_⟩
    rintro e w5 ⟨rfl, ⟨gg, cap, hA5, hr5⟩, hb5⟩
    have hJ5 := hJ 0 W w5 h0 (hb3.trans hb5)
    have hbW := hb3.trans hb5
    clear hBe hE ceA hbs HS hb3 hb5 ce h0
    gi_wp2
    gi_loopw [4] (fun q wr => Below W.heap.size W wr ∧ ∃ i : Nat, J i wr ∧ ((∃ (k : TypeId) (v : Value) (gg cap : Nat), xs[i]? = some (.iface k v) ∧ At wr (W.heap.size + 1) #[.slice (some ⟨gg, 0, none⟩) 1 cap, .int .i64 ((i : Int) + 1), .map (some W.heap.size), .int .i64 0] ∧ wr.ownsRow (W.heap.size + 1 + 1) 39 1 (.slice (some ⟨gg, 0, none⟩) 1 cap) 1 [.iface k v]) ∨ (i = xs.length ∧ ∃ (la : Option Addr) (lc : Nat), At wr (W.heap.size + 1) #[.slice la 0 lc, .int .i64 (i : Int), .map (some W.heap.size), .int .i64 0])))
      (fun _ wr => leftOf (W.heap.size + 1) xs.length wr)
    case atStart => exact ⟨hbW, 0, hJ5, .inl ⟨kx, vx, gg, cap, h00, hA5, hr5⟩⟩
    case round =>
      clear hA5 hr5 hJ5 hbW h00
      obtain ⟨hbw, i, hJi, (⟨k, v, gg, cap, hxi, hA, hr⟩ | ⟨rfl, la, lc, hA⟩)⟩ := hrel
      · have hil : i < xs.length := (List.getElem?_eq_some_iff.1 hxi).1
        have h500 := hch.1
        have hJs := hJ i wr (wr.setCell ⟨W.heap.size + 1, 0, none⟩ (.slice (some ⟨gg, 0, none⟩) 0 cap)) hJi ((Below.refl _ wr).setCell (p := ⟨W.heap.size + 1, 0, none⟩) (Nat.le_succ _) _)
        have hbs := hbw.setCell (p := ⟨W.heap.size + 1, 0, none⟩) (Nat.le_succ _) (.slice (some ⟨gg, 0, none⟩) 0 cap)
        obtain ⟨f1, t1, a1, b1, hy1, hR1⟩ := hY i (.iface k v) _ hxi hJs
        obtain ⟨cx, hcap, hgg⟩ := own_first hr
        have c0 := (hA.2 0 _ rfl).1
        have z0 := (hA.2 0 _ rfl).2
        have c1 := (hA.2 1 _ rfl).1
        have hi0 : (i : Int) + 1 ≤ 67108864 := by omega
        have hm0 := leftOf_at (n := xs.length) hA
        have hAs := hA.set 0 (.slice (some ⟨gg, 0, none⟩) 0 cap)
        have hrs := own_setCell (own_pop hr) (W.heap.size + 1) 0 (.slice (some ⟨gg, 0, none⟩) 0 cap) (Nat.lt_succ_self _)
        clear hA hr hJi
        gi_wp2
        refine ⟨fun h => (by cases h), hR1.mono ?_⟩
        rintro e W3 (⟨rfl, hJ3, hk3⟩ | ⟨rfl, hx3⟩)
        · have hA3 := hAs.later hk3
          have hr3 := own_later hrs hk3
          have hb3 : Below W.heap.size W W3 := hbs.trans (hk3.mono (by have := hbw.size; simp; omega))
          have hw3 := (hch.2 i _ hxi).2 W3 (hW.trans (hb3.mono hW.size))
          clear hAs hrs hbs hk3 hy1 hR1 hJs c0 z0 c1 cx
          rcases hnx : xs[i + 1]? with _ | y
          · rw [hnx] at hw3
            have HE : Hid (Calls Tryz.prog 99 #[.pointer (some ⟨W.heap.size + 1, 0, none⟩), .iface k v] W3 fun e w' => e = .returned (.tuple #[]) ∧ w' = W3) := enter_n (W.heap.size + 1) k v W3 hw3
            have hend : i + 1 = xs.length := by
              have := List.getElem?_eq_none_iff.1 hnx
              omega
            clear hw3
            gi_wp2_with fail
            refine ⟨trivial, fun h => (by cases h), (callsIn_wide.2 HE.out).mono ?_⟩
            rintro e W4 ⟨rfl, rfl⟩
            gi_wp2
            go_roundw
            case rel => exact ⟨hb3, i + 1, hJ3, .inr ⟨hend, some ⟨gg, 0, none⟩, cap, hA3⟩⟩
            case measure => rw [hm0, leftOf_at (n := xs.length) hA3]; omega
          · rw [hnx] at hw3
            obtain ⟨⟨ky, vy, rfl⟩, -⟩ := hch.2 (i + 1) y hnx
            have hi1 : i + 1 < xs.length := (List.getElem?_eq_some_iff.1 hnx).1
            have HE : Hid (Calls Tryz.prog 99 #[.pointer (some ⟨W.heap.size + 1, 0, none⟩), .iface k v] W3 fun e w' => e = .returned (.tuple #[]) ∧ (∃ gg cap : Nat, At w' (W.heap.size + 1) #[.slice (some ⟨gg, 0, none⟩) 1 cap, .int .i64 ((i : Int) + 1 + 1), .map (some W.heap.size), .int .i64 0] ∧ w'.ownsRow (W.heap.size + 1 + 1) 39 1 (.slice (some ⟨gg, 0, none⟩) 1 cap) 1 [.iface ky vy]) ∧ Below W.heap.size W3 w') :=
              enter_s W.heap.size (W.heap.size + 1) ((i : Int) + 1) 0 _ (some ⟨gg, 0, none⟩) cap ky vy k v W3 (Nat.le_succ _) hA3 hr3 (by omega) (by omega) hw3
            clear hw3 hA3 hr3
            gi_wp2_with fail
            refine ⟨trivial, fun h => (by cases h), (callsIn_wide.2 HE.out).mono ?_⟩
            rintro e W4 ⟨rfl, ⟨gg2, cap2, hA4, hr4⟩, hb4⟩
            gi_wp2
            go_roundw
            case rel => exact ⟨hb3.trans hb4, i + 1, hJ (i + 1) W3 W4 hJ3 hb4, .inl ⟨ky, vy, gg2, cap2, hnx, hA4, hr4⟩⟩
            case measure => rw [hm0, leftOf_at (n := xs.length) hA4]; omega
        · gi_wp2
          refine bodyPost_ret (results_none rfl _ _ _) rfl ?_
          exact ⟨⟨_, rfl⟩, .inr ⟨i, hil, hx3⟩⟩
      · have c0 := (hA.2 0 _ rfl).1
        have c1 := (hA.2 1 _ rfl).1
        gi_wp2
        go_end0
        exact ⟨⟨_, rfl⟩, .inl hJi⟩
end Go.Proofs.YtkpdmgoldngdaabGreatDoor

namespace Go.Proofs.YtkpdmgoldngdaabGreatDoor
open Go.RowKit Go.Shelf
attribute [local go_sem] Oper.semAt_some
set_option maxRecDepth 100000
set_option linter.unusedVariables false
set_option linter.unusedSimpArgs false
theorem fits44 (c : Int) (w : World) : Calls Tryz.prog 57 #[.int .i64 c] w fun e w' => e = .returned (.bool true) ∧ w' = w := by
  go_enter Tryz.func57, Tryz.ntmps57
  go_wp2
  go_ret
  exact ⟨rfl, rfl⟩
theorem fits80 (q : Addr) (w : World) : Calls Tryz.prog 85 #[.pointer (some q)] w fun e w' => e = .returned (.bool true) ∧ w' = w := by
  go_enter Tryz.func85, Tryz.ntmps85
  go_wp2
  go_ret
  exact ⟨rfl, rfl⟩
theorem inside_any (k : TypeId) (v : Value) (w : World) : Calls Tryz.prog 75 #[.iface k v] w fun e w' => e = .returned (.func (.func 97) #[] #[.pointer (some ⟨w.heap.size, 0, none⟩)]) ∧ w' = w.alloc (.cells #[.iface k v] 39) := by
  have hmf : ∀ (fn : Fn) (first cap : Array Value) (w : World), (Instr.makeFunc fn first cap).run Tryz.prog w = .ok (.func fn first cap) w := fun _ _ _ _ => rfl
  go_enter Tryz.func75, Tryz.ntmps75
  go_wp2
  go_ret
  exact ⟨rfl, rfl⟩
theorem inside_nil (w : World) : Calls Tryz.prog 75 #[.nilIface] w fun e w' => e = .returned (.func (.func 97) #[] #[.pointer (some ⟨w.heap.size, 0, none⟩)]) ∧ w' = w.alloc (.cells #[.nilIface] 39) := by
  have hmf : ∀ (fn : Fn) (first cap : Array Value) (w : World), (Instr.makeFunc fn first cap).run Tryz.prog w = .ok (.func fn first cap) w := fun _ _ _ _ => rfl
  go_enter Tryz.func75, Tryz.ntmps75
  go_wp2
  go_ret
  exact ⟨rfl, rfl⟩
set_option maxHeartbeats 4000000 in
theorem firstC (xs : List Value) (ok : Nat → Bool) (va : Nat → Int) (k : TypeId) (v : Value) (w : World) (h00 : xs[0]?.getD .nilIface = .iface k v) (hch : ChainOf w xs)
    (hO0 : ∀ i x W, xs[i]? = some x → ok i = false → Below w.heap.size w W → Calls Tryz.prog 76 #[x] W fun e w' => e = .returned (.tuple #[.int .i64 0, .bool false]) ∧ Below W.heap.size W w')
    (hO1 : ∀ i x W, xs[i]? = some x → ok i = true → Below w.heap.size w W → Calls Tryz.prog 76 #[x] W fun e w' => e = .returned (.tuple #[.int .i64 (va i), .bool true]) ∧ Below W.heap.size W w') :
    Calls Tryz.prog 56 #[.iface k v, .func (.func 57) #[] #[]] w fun e w' => ((∃ i, i < xs.length ∧ ok i = true ∧ (∀ j, j < i → ok j = false) ∧ e = .returned (.tuple #[.int .i64 (va i), .bool true])) ∨ ((∀ j, j < xs.length → ok j = false) ∧ e = .returned (.tuple #[.int .i64 0, .bool false]))) ∧ Below w.heap.size w w' := by
  refine (callsIn_wide (n := 6)).1 ?_
  refine callsIn_of_wp_marks Tryz.func56 rfl trivial ?_ rfl
  simp only [Tryz.ntmps56, List.size_toArray, List.length_cons, List.length_nil, Nat.reduceAdd, Nat.reduceSub, Array.replicate_succ, Array.replicate_zero, List.push_toArray, List.append_toArray, List.nil_append, List.cons_append]
  gi_wp2_with (refine ⟨trivial, ?_⟩; gi_at_call 75; refine (callsIn_wide.2 (inside_any _ _ _)).mono ?_; rintro e w' ⟨rfl, rfl⟩)
  have e1 := bel1 w (.cells #[.func (.func 57) #[] #[]] 104)
  have e2 := bel1 (w.alloc (.cells #[.func (.func 57) #[] #[]] 104)) (.cells #[.int .i64 0] 42)
  have e3 := bel1 ((w.alloc (.cells #[.func (.func 57) #[] #[]] 104)).alloc (.cells #[.int .i64 0] 42)) (.cells #[.bool false] 4)
  have e4 := bel1 (((w.alloc (.cells #[.func (.func 57) #[] #[]] 104)).alloc (.cells #[.int .i64 0] 42)).alloc (.cells #[.bool false] 4)) (.cells #[.iface k v] 39)
  have hF := (((At.box w #[.func (.func 57) #[] #[]] 104).later e2).later e3).later e4
  have hV := ((At.box2 w (.cells #[.func (.func 57) #[] #[]] 104) #[.int .i64 0] 42).later e3).later e4
  have hK0 := (At.box2 (w.alloc (.cells #[.func (.func 57) #[] #[]] 104)) (.cells #[.int .i64 0] 42) #[.bool false] 4).later e4
  have hX0 := At.box2 ((w.alloc (.cells #[.func (.func 57) #[] #[]] 104)).alloc (.cells #[.int .i64 0] 42)) (.cells #[.bool false] 4) #[.iface k v] 39
  have hb0 := bt (bt (bt e1 e2) e3) e4
  have hsz : ((((w.alloc (.cells #[.func (.func 57) #[] #[]] 104)).alloc (.cells #[.int .i64 0] 42)).alloc (.cells #[.bool false] 4)).alloc (.cells #[.iface k v] 39)).heap.size = w.heap.size + 4 := by simp
  simp only [World.size_alloc] at hK0 hX0
  generalize hW0 : (((w.alloc (.cells #[.func (.func 57) #[] #[]] 104)).alloc (.cells #[.int .i64 0] 42)).alloc (.cells #[.bool false] 4)).alloc (.cells #[.iface k v] 39) = W0 at *
  clear e1 e2 e3 e4 hW0
  refine wpIn_range_it (α := Value) rfl (by omega) (gf := 97) (lb := #[.pointer (some ⟨w.heap.size + 1 + 1 + 1, 0, none⟩)]) rfl trivial (enters_of Tryz.func97 (by kernel_rfl) rfl)
    (inside_it (6 - 1) (w.heap.size + 1 + 1 + 1) xs W0 (by rw [h00]; exact hX0) ⟨hch.1, fun i x hx => ⟨(hch.2 i x hx).1, fun W hW => (hch.2 i x hx).2 W (bt hb0 hW)⟩⟩) (Below.refl _ _) (fun _ => rfl)
    (fun i W => Below W0.heap.size W0 W ∧ ∀ j, j < i → ok j = false)
    (fun i W => (ok i = true ∧ ∀ j, j < i → ok j = false) ∧ Below w.heap.size w W ∧ At W (w.heap.size + 1) #[.int .i64 (va i)] ∧ At W (w.heap.size + 1 + 1) #[.bool true])
    ⟨Below.refl _ _, fun j h => (by omega)⟩ (fun i s A B hs h hb => ⟨h.1.trans (hb.mono (by omega)), h.2⟩) (fun s k A B o hk hA _ hb => (hb.block k hk).trans hA)
    (fun i A o h => ⟨h.1.trans ((bel1 A o).mono h.1.size), h.2⟩) (fun i A l o o' hl ho _ h => ⟨below_put h.1 o' ho hl, h.2⟩)
    (fun i A l o o' hl ho hc h => ⟨h.1, below_put h.2.1 o' ho (by omega), h.2.2.1.put o' ho hc, h.2.2.2.put o' ho hc⟩) (Bd := fun A B => Below A.heap.size A B) (fun A B l o o' hl hb => round_below hl hb)
    (fun x => { tmps := #[.iface k v, .func (.func 57) #[] #[], undef, .pointer (some ⟨w.heap.size, 0, none⟩), .pointer (some ⟨w.heap.size + 1, 0, none⟩), .pointer (some ⟨w.heap.size + 1 + 1, 0, none⟩), x, undef, undef, .iface k v, .func (.func 97) #[] #[.pointer (some ⟨w.heap.size + 1 + 1 + 1, 0, none⟩)], x, undef, undef, undef, undef, undef, undef, undef, undef, undef, undef, undef, undef, undef], defers := [] }) ?assign ?body ?done ?stop
  case assign =>
    intro l x W K hK
    gi_wp2
    exact hK
  case body =>
    rintro l i x W hx hsw ⟨hb, hno⟩
    obtain ⟨⟨kx, vx, rfl⟩, -⟩ := hch.2 i x hx
    have hbw := bt hb0 hb
    rcases hok : ok i with _ | _
    · have HO : Hid (Calls Tryz.prog 76 #[.iface kx vx] W fun e w' => e = .returned (.tuple #[.int .i64 0, .bool false]) ∧ Below W.heap.size W w') := hO0 i _ W hx hok hbw
      gi_wp2_with fail
      refine ⟨trivial, (CallsIn.inRound l (callsIn_wide.2 HO.out)).mono ?_⟩
      rintro e W2 ⟨rfl, hb2⟩
      gi_wp2
      refine ⟨fun _ h => (by cases h), ?_⟩
      gi_wp2
      exact ⟨keepsFrom_of_below hb2, hb2, bt hb hb2, fun j hj => by
        rcases Nat.lt_or_ge j i with h | h
        · exact hno j h
        · obtain rfl : j = i := by omega
          exact hok⟩
    · have HO : Hid (Calls Tryz.prog 76 #[.iface kx vx] W fun e w' => e = .returned (.tuple #[.int .i64 (va i), .bool true]) ∧ Below W.heap.size W w') := hO1 i _ W hx hok hbw
      gi_wp2_with fail
      refine ⟨trivial, (CallsIn.inRound l (callsIn_wide.2 HO.out)).mono ?_⟩
      rintro e W2 ⟨rfl, hb2⟩
      have hF2 := (hF.later hb).later hb2
      have hV2 := (hV.later hb).later hb2
      have hK2 := (hK0.later hb).later hb2
      have cf := (hF2.2 0 _ rfl).1
      have cv := (hV2.2 0 _ rfl).1
      have zv := (hV2.2 0 _ rfl).2
      have ck := (hK2.2 0 _ rfl).1
      have zk := (hK2.2 0 _ rfl).2
      gi_wp2_with fail
      refine ⟨trivial, (CallsIn.inRound l (callsIn_wide.2 (fits44 _ _))).mono ?_⟩
      rintro e W3 ⟨rfl, rfl⟩
      gi_wp2
      exact ⟨(keepsFrom_of_below hb2).trans (((KeepsOthers.setCell _ _ _).trans (KeepsOthers.setCell _ _ _)).from _), ⟨hok, hno⟩, ((bt hbw hb2).setCell (p := ⟨w.heap.size + 1, 0, none⟩) (Nat.le_succ _) _).setCell (p := ⟨w.heap.size + 1 + 1, 0, none⟩) (by show w.heap.size ≤ w.heap.size + 1 + 1; omega) _, (hV2.set 0 _).keep (by omega) 0 _, (hK2.keep (by omega) 0 _).set 0 _⟩
  case done =>
    rintro D W hD ⟨hb, hno⟩ hK
    have hV2 := hV.later hb
    have hK2 := hK0.later hb
    have cv := (hV2.2 0 _ rfl).1
    have zv := (hV2.2 0 _ rfl).2
    have ck := (hK2.2 0 _ rfl).1
    have zk := (hK2.2 0 _ rfl).2
    gi_wp2
    have hV3 := (hV2.set 0 (.int .i64 0)).keep (b := w.heap.size + 1 + 1) (by omega) 0 (.bool false)
    have hK3 := (hK2.keep (b := w.heap.size + 1) (by omega) 0 (.int .i64 0)).set 0 (.bool false)
    have hD3 := ((KeepsOthers.setCell W ⟨w.heap.size + 1, 0, none⟩ (.int .i64 0)).trans (KeepsOthers.setCell _ ⟨w.heap.size + 1 + 1, 0, none⟩ (.bool false))).same D _ hK rfl
    have hb3 := ((bt hb0 hb).setCell (p := ⟨w.heap.size + 1, 0, none⟩) (Nat.le_succ _) (.int .i64 0)).setCell (p := ⟨w.heap.size + 1 + 1, 0, none⟩) (by show w.heap.size ≤ w.heap.size + 1 + 1; omega) (.bool false)
    refine ⟨by simp, .inl ⟨_, _, rfl, run_takeDeferred hD3, ?_⟩⟩
    have hVf := hV3.put (.deferred none) hD3 rfl
    have hKf := hK3.put (.deferred none) hD3 rfl
    have c4 := (hVf.2 0 _ rfl).1
    have c5 := (hKf.2 0 _ rfl).1
    exact ⟨.tuple #[.int .i64 0, .bool false], by simp [results, Tryz.results56, go_sem, c4, c5], .inr ⟨hno, rfl⟩, below_put hb3 _ hD3 (by omega)⟩
  case stop =>
    rintro D i W hD hi ⟨⟨hok, hno⟩, hb, hV2, hK2⟩ hK
    gi_wp2
    refine ⟨by simp, .inl ⟨_, _, rfl, run_takeDeferred hK, ?_⟩⟩
    have hVf := hV2.put (.deferred none) hK rfl
    have hKf := hK2.put (.deferred none) hK rfl
    have c4 := (hVf.2 0 _ rfl).1
    have c5 := (hKf.2 0 _ rfl).1
    exact ⟨.tuple #[.int .i64 (va i), .bool true], by simp [results, Tryz.results56, go_sem, c4, c5], .inl ⟨i, hi, hok, hno, rfl⟩, below_put hb _ hK (by omega)⟩
set_option maxHeartbeats 4000000 in
theorem firstF (xs : List Value) (ok : Nat → Bool) (va : Nat → Addr) (k : TypeId) (v : Value) (w : World) (h00 : xs[0]?.getD .nilIface = .iface k v) (hch : ChainOf w xs)
    (hO0 : ∀ i x W, xs[i]? = some x → ok i = false → Below w.heap.size w W → Calls Tryz.prog 108 #[x] W fun e w' => e = .returned (.tuple #[.pointer none, .bool false]) ∧ Below W.heap.size W w')
    (hO1 : ∀ i x W, xs[i]? = some x → ok i = true → Below w.heap.size w W → Calls Tryz.prog 108 #[x] W fun e w' => e = .returned (.tuple #[.pointer (some (va i)), .bool true]) ∧ Below W.heap.size W w') :
    Calls Tryz.prog 84 #[.iface k v, .func (.func 85) #[] #[]] w fun e w' => ((∃ i, i < xs.length ∧ ok i = true ∧ (∀ j, j < i → ok j = false) ∧ e = .returned (.tuple #[.pointer (some (va i)), .bool true])) ∨ ((∀ j, j < xs.length → ok j = false) ∧ e = .returned (.tuple #[.pointer none, .bool false]))) ∧ Below w.heap.size w w' := by
  refine (callsIn_wide (n := 6)).1 ?_
  refine callsIn_of_wp_marks Tryz.func84 rfl trivial ?_ rfl
  simp only [Tryz.ntmps84, List.size_toArray, List.length_cons, List.length_nil, Nat.reduceAdd, Nat.reduceSub, Array.replicate_succ, Array.replicate_zero, List.push_toArray, List.append_toArray, List.nil_append, List.cons_append]
  gi_wp2_with (refine ⟨trivial, ?_⟩; gi_at_call 75; refine (callsIn_wide.2 (inside_any _ _ _)).mono ?_; rintro e w' ⟨rfl, rfl⟩)
  have e1 := bel1 w (.cells #[.func (.func 85) #[] #[]] 149)
  have e2 := bel1 (w.alloc (.cells #[.func (.func 85) #[] #[]] 149)) (.cells #[.pointer none] 70)
  have e3 := bel1 ((w.alloc (.cells #[.func (.func 85) #[] #[]] 149)).alloc (.cells #[.pointer none] 70)) (.cells #[.bool false] 4)
  have e4 := bel1 (((w.alloc (.cells #[.func (.func 85) #[] #[]] 149)).alloc (.cells #[.pointer none] 70)).alloc (.cells #[.bool false] 4)) (.cells #[.iface k v] 39)
  have hF := (((At.box w #[.func (.func 85) #[] #[]] 149).later e2).later e3).later e4
  have hV := ((At.box2 w (.cells #[.func (.func 85) #[] #[]] 149) #[.pointer none] 70).later e3).later e4
  have hK0 := (At.box2 (w.alloc (.cells #[.func (.func 85) #[] #[]] 149)) (.cells #[.pointer none] 70) #[.bool false] 4).later e4
  have hX0 := At.box2 ((w.alloc (.cells #[.func (.func 85) #[] #[]] 149)).alloc (.cells #[.pointer none] 70)) (.cells #[.bool false] 4) #[.iface k v] 39
  have hb0 := bt (bt (bt e1 e2) e3) e4
  have hsz : ((((w.alloc (.cells #[.func (.func 85) #[] #[]] 149)).alloc (.cells #[.pointer none] 70)).alloc (.cells #[.bool false] 4)).alloc (.cells #[.iface k v] 39)).heap.size = w.heap.size + 4 := by simp
  simp only [World.size_alloc] at hK0 hX0
  generalize hW0 : (((w.alloc (.cells #[.func (.func 85) #[] #[]] 149)).alloc (.cells #[.pointer none] 70)).alloc (.cells #[.bool false] 4)).alloc (.cells #[.iface k v] 39) = W0 at *
  clear e1 e2 e3 e4 hW0
  refine wpIn_range_it (α := Value) rfl (by omega) (gf := 97) (lb := #[.pointer (some ⟨w.heap.size + 1 + 1 + 1, 0, none⟩)]) rfl trivial (enters_of Tryz.func97 (by kernel_rfl) rfl)
    (inside_it (6 - 1) (w.heap.size + 1 + 1 + 1) xs W0 (by rw [h00]; exact hX0) ⟨hch.1, fun i x hx => ⟨(hch.2 i x hx).1, fun W hW => (hch.2 i x hx).2 W (bt hb0 hW)⟩⟩) (Below.refl _ _) (fun _ => rfl)
    (fun i W => Below W0.heap.size W0 W ∧ ∀ j, j < i → ok j = false)
    (fun i W => (ok i = true ∧ ∀ j, j < i → ok j = false) ∧ Below w.heap.size w W ∧ At W (w.heap.size + 1) #[.pointer (some (va i))] ∧ At W (w.heap.size + 1 + 1) #[.bool true])
    ⟨Below.refl _ _, fun j h => (by omega)⟩ (fun i s A B hs h hb => ⟨h.1.trans (hb.mono (by omega)), h.2⟩) (fun s k A B o hk hA _ hb => (hb.block k hk).trans hA)
    (fun i A o h => ⟨h.1.trans ((bel1 A o).mono h.1.size), h.2⟩) (fun i A l o o' hl ho _ h => ⟨below_put h.1 o' ho hl, h.2⟩)
    (fun i A l o o' hl ho hc h => ⟨h.1, below_put h.2.1 o' ho (by omega), h.2.2.1.put o' ho hc, h.2.2.2.put o' ho hc⟩) (Bd := fun A B => Below A.heap.size A B) (fun A B l o o' hl hb => round_below hl hb)
    (fun x => { tmps := #[.iface k v, .func (.func 85) #[] #[], undef, .pointer (some ⟨w.heap.size, 0, none⟩), .pointer (some ⟨w.heap.size + 1, 0, none⟩), .pointer (some ⟨w.heap.size + 1 + 1, 0, none⟩), x, undef, undef, .iface k v, .func (.func 97) #[] #[.pointer (some ⟨w.heap.size + 1 + 1 + 1, 0, none⟩)], x, undef, undef, undef, undef, undef, undef, undef, undef, undef, undef, undef, undef, undef], defers := [] }) ?assign ?body ?done ?stop
  case assign =>
    intro l x W K hK
    gi_wp2
    exact hK
  case body =>
    rintro l i x W hx hsw ⟨hb, hno⟩
    obtain ⟨⟨kx, vx, rfl⟩, -⟩ := hch.2 i x hx
    have hbw := bt hb0 hb
    rcases hok : ok i with _ | _
    · have HO : Hid (Calls Tryz.prog 108 #[.iface kx vx] W fun e w' => e = .returned (.tuple #[.pointer none, .bool false]) ∧ Below W.heap.size W w') := hO0 i _ W hx hok hbw
      gi_wp2_with fail
      refine ⟨trivial, (CallsIn.inRound l (callsIn_wide.2 HO.out)).mono ?_⟩
      rintro e W2 ⟨rfl, hb2⟩
      gi_wp2
      refine ⟨fun _ h => (by cases h), ?_⟩
      gi_wp2
      exact ⟨keepsFrom_of_below hb2, hb2, bt hb hb2, fun j hj => by
        rcases Nat.lt_or_ge j i with h | h
        · exact hno j h
        · obtain rfl : j = i := by omega
          exact hok⟩
    · have HO : Hid (Calls Tryz.prog 108 #[.iface kx vx] W fun e w' => e = .returned (.tuple #[.pointer (some (va i)), .bool true]) ∧ Below W.heap.size W w') := hO1 i _ W hx hok hbw
      gi_wp2_with fail
      refine ⟨trivial, (CallsIn.inRound l (callsIn_wide.2 HO.out)).mono ?_⟩
      rintro e W2 ⟨rfl, hb2⟩
      have hF2 := (hF.later hb).later hb2
      have hV2 := (hV.later hb).later hb2
      have hK2 := (hK0.later hb).later hb2
      have cf := (hF2.2 0 _ rfl).1
      have cv := (hV2.2 0 _ rfl).1
      have zv := (hV2.2 0 _ rfl).2
      have ck := (hK2.2 0 _ rfl).1
      have zk := (hK2.2 0 _ rfl).2
      gi_wp2_with fail
      refine ⟨trivial, (CallsIn.inRound l (callsIn_wide.2 (fits80 _ _))).mono ?_⟩
      rintro e W3 ⟨rfl, rfl⟩
      gi_wp2
      exact ⟨(keepsFrom_of_below hb2).trans (((KeepsOthers.setCell _ _ _).trans (KeepsOthers.setCell _ _ _)).from _), ⟨hok, hno⟩, ((bt hbw hb2).setCell (p := ⟨w.heap.size + 1, 0, none⟩) (Nat.le_succ _) _).setCell (p := ⟨w.heap.size + 1 + 1, 0, none⟩) (by show w.heap.size ≤ w.heap.size + 1 + 1; omega) _, (hV2.set 0 _).keep (by omega) 0 _, (hK2.keep (by omega) 0 _).set 0 _⟩
  case done =>
    rintro D W hD ⟨hb, hno⟩ hK
    have hV2 := hV.later hb
    have hK2 := hK0.later hb
    have cv := (hV2.2 0 _ rfl).1
    have zv := (hV2.2 0 _ rfl).2
    have ck := (hK2.2 0 _ rfl).1
    have zk := (hK2.2 0 _ rfl).2
    gi_wp2
    have hV3 := (hV2.set 0 (.pointer none)).keep (b := w.heap.size + 1 + 1) (by omega) 0 (.bool false)
    have hK3 := (hK2.keep (b := w.heap.size + 1) (by omega) 0 (.pointer none)).set 0 (.bool false)
    have hD3 := ((KeepsOthers.setCell W ⟨w.heap.size + 1, 0, none⟩ (.pointer none)).trans (KeepsOthers.setCell _ ⟨w.heap.size + 1 + 1, 0, none⟩ (.bool false))).same D _ hK rfl
    have hb3 := ((bt hb0 hb).setCell (p := ⟨w.heap.size + 1, 0, none⟩) (Nat.le_succ _) (.pointer none)).setCell (p := ⟨w.heap.size + 1 + 1, 0, none⟩) (by show w.heap.size ≤ w.heap.size + 1 + 1; omega) (.bool false)
    refine ⟨by simp, .inl ⟨_, _, rfl, run_takeDeferred hD3, ?_⟩⟩
    have hVf := hV3.put (.deferred none) hD3 rfl
    have hKf := hK3.put (.deferred none) hD3 rfl
    have c4 := (hVf.2 0 _ rfl).1
    have c5 := (hKf.2 0 _ rfl).1
    exact ⟨.tuple #[.pointer none, .bool false], by simp [results, Tryz.results84, go_sem, c4, c5], .inr ⟨hno, rfl⟩, below_put hb3 _ hD3 (by omega)⟩
  case stop =>
    rintro D i W hD hi ⟨⟨hok, hno⟩, hb, hV2, hK2⟩ hK
    gi_wp2
    refine ⟨by simp, .inl ⟨_, _, rfl, run_takeDeferred hK, ?_⟩⟩
    have hVf := hV2.put (.deferred none) hK rfl
    have hKf := hK2.put (.deferred none) hK rfl
    have c4 := (hVf.2 0 _ rfl).1
    have c5 := (hKf.2 0 _ rfl).1
    exact ⟨.tuple #[.pointer (some (va i)), .bool true], by simp [results, Tryz.results84, go_sem, c4, c5], .inl ⟨i, hi, hok, hno, rfl⟩, below_put hb _ hK (by omega)⟩
set_option maxHeartbeats 4000000 in
theorem firstFn (xs : List Value) (ok : Nat → Bool) (va : Nat → Addr) (w : World) (h00 : xs[0]?.getD .nilIface = .nilIface) (hch : ChainOf w xs)
    (hO0 : ∀ i x W, xs[i]? = some x → ok i = false → Below w.heap.size w W → Calls Tryz.prog 108 #[x] W fun e w' => e = .returned (.tuple #[.pointer none, .bool false]) ∧ Below W.heap.size W w')
    (hO1 : ∀ i x W, xs[i]? = some x → ok i = true → Below w.heap.size w W → Calls Tryz.prog 108 #[x] W fun e w' => e = .returned (.tuple #[.pointer (some (va i)), .bool true]) ∧ Below W.heap.size W w') :
    Calls Tryz.prog 84 #[.nilIface, .func (.func 85) #[] #[]] w fun e w' => ((∃ i, i < xs.length ∧ ok i = true ∧ (∀ j, j < i → ok j = false) ∧ e = .returned (.tuple #[.pointer (some (va i)), .bool true])) ∨ ((∀ j, j < xs.length → ok j = false) ∧ e = .returned (.tuple #[.pointer none, .bool false]))) ∧ Below w.heap.size w w' := by
  refine (callsIn_wide (n := 6)).1 ?_
  refine callsIn_of_wp_marks Tryz.func84 rfl trivial ?_ rfl
  simp only [Tryz.ntmps84, List.size_toArray, List.length_cons, List.length_nil, Nat.reduceAdd, Nat.reduceSub, Array.replicate_succ, Array.replicate_zero, List.push_toArray, List.append_toArray, List.nil_append, List.cons_append]
  gi_wp2_with (refine ⟨trivial, ?_⟩; gi_at_call 75; refine (callsIn_wide.2 (inside_nil _)).mono ?_; rintro e w' ⟨rfl, rfl⟩)
  have e1 := bel1 w (.cells #[.func (.func 85) #[] #[]] 149)
  have e2 := bel1 (w.alloc (.cells #[.func (.func 85) #[] #[]] 149)) (.cells #[.pointer none] 70)
  have e3 := bel1 ((w.alloc (.cells #[.func (.func 85) #[] #[]] 149)).alloc (.cells #[.pointer none] 70)) (.cells #[.bool false] 4)
  have e4 := bel1 (((w.alloc (.cells #[.func (.func 85) #[] #[]] 149)).alloc (.cells #[.pointer none] 70)).alloc (.cells #[.bool false] 4)) (.cells #[.nilIface] 39)
  have hF := (((At.box w #[.func (.func 85) #[] #[]] 149).later e2).later e3).later e4
  have hV := ((At.box2 w (.cells #[.func (.func 85) #[] #[]] 149) #[.pointer none] 70).later e3).later e4
  have hK0 := (At.box2 (w.alloc (.cells #[.func (.func 85) #[] #[]] 149)) (.cells #[.pointer none] 70) #[.bool false] 4).later e4
  have hX0 := At.box2 ((w.alloc (.cells #[.func (.func 85) #[] #[]] 149)).alloc (.cells #[.pointer none] 70)) (.cells #[.bool false] 4) #[.nilIface] 39
  have hb0 := bt (bt (bt e1 e2) e3) e4
  have hsz : ((((w.alloc (.cells #[.func (.func 85) #[] #[]] 149)).alloc (.cells #[.pointer none] 70)).alloc (.cells #[.bool false] 4)).alloc (.cells #[.nilIface] 39)).heap.size = w.heap.size + 4 := by simp
  simp only [World.size_alloc] at hK0 hX0
  generalize hW0 : (((w.alloc (.cells #[.func (.func 85) #[] #[]] 149)).alloc (.cells #[.pointer none] 70)).alloc (.cells #[.bool false] 4)).alloc (.cells #[.nilIface] 39) = W0 at *
  clear e1 e2 e3 e4 hW0
  refine wpIn_range_it (α := Value) rfl (by omega) (gf := 97) (lb := #[.pointer (some ⟨w.heap.size + 1 + 1 + 1, 0, none⟩)]) rfl trivial (enters_of Tryz.func97 (by kernel_rfl) rfl)
    (inside_it (6 - 1) (w.heap.size + 1 + 1 + 1) xs W0 (by rw [h00]; exact hX0) ⟨hch.1, fun i x hx => ⟨(hch.2 i x hx).1, fun W hW => (hch.2 i x hx).2 W (bt hb0 hW)⟩⟩) (Below.refl _ _) (fun _ => rfl)
    (fun i W => Below W0.heap.size W0 W ∧ ∀ j, j < i → ok j = false)
    (fun i W => (ok i = true ∧ ∀ j, j < i → ok j = false) ∧ Below w.heap.size w W ∧ At W (w.heap.size + 1) #[.pointer (some (va i))] ∧ At W (w.heap.size + 1 + 1) #[.bool true])
    ⟨Below.refl _ _, fun j h => (by omega)⟩ (fun i s A B hs h hb => ⟨h.1.trans (hb.mono (by omega)), h.2⟩) (fun s k A B o hk hA _ hb => (hb.block k hk).trans hA)
    (fun i A o h => ⟨h.1.trans ((bel1 A o).mono h.1.size), h.2⟩) (fun i A l o o' hl ho _ h => ⟨below_put h.1 o' ho hl, h.2⟩)
    (fun i A l o o' hl ho hc h => ⟨h.1, below_put h.2.1 o' ho (by omega), h.2.2.1.put o' ho hc, h.2.2.2.put o' ho hc⟩) (Bd := fun A B => Below A.heap.size A B) (fun A B l o o' hl hb => round_below hl hb)
    (fun x => { tmps := #[.nilIface, .func (.func 85) #[] #[], undef, .pointer (some ⟨w.heap.size, 0, none⟩), .pointer (some ⟨w.heap.size + 1, 0, none⟩), .pointer (some ⟨w.heap.size + 1 + 1, 0, none⟩), x, undef, undef, .nilIface, .func (.func 97) #[] #[.pointer (some ⟨w.heap.size + 1 + 1 + 1, 0, none⟩)], x, undef, undef, undef, undef, undef, undef, undef, undef, undef, undef, undef, undef, undef], defers := [] }) ?assign ?body ?done ?stop
  case assign =>
    intro l x W K hK
    gi_wp2
    exact hK
  case body =>
    rintro l i x W hx hsw ⟨hb, hno⟩
    obtain ⟨⟨kx, vx, rfl⟩, -⟩ := hch.2 i x hx
    have hbw := bt hb0 hb
    rcases hok : ok i with _ | _
    · have HO : Hid (Calls Tryz.prog 108 #[.iface kx vx] W fun e w' => e = .returned (.tuple #[.pointer none, .bool false]) ∧ Below W.heap.size W w') := hO0 i _ W hx hok hbw
      gi_wp2_with fail
      refine ⟨trivial, (CallsIn.inRound l (callsIn_wide.2 HO.out)).mono ?_⟩
      rintro e W2 ⟨rfl, hb2⟩
      gi_wp2
      refine ⟨fun _ h => (by cases h), ?_⟩
      gi_wp2
      exact ⟨keepsFrom_of_below hb2, hb2, bt hb hb2, fun j hj => by
        rcases Nat.lt_or_ge j i with h | h
        · exact hno j h
        · obtain rfl : j = i := by omega
          exact hok⟩
    · have HO : Hid (Calls Tryz.prog 108 #[.iface kx vx] W fun e w' => e = .returned (.tuple #[.pointer (some (va i)), .bool true]) ∧ Below W.heap.size W w') := hO1 i _ W hx hok hbw
      gi_wp2_with fail
      refine ⟨trivial, (CallsIn.inRound l (callsIn_wide.2 HO.out)).mono ?_⟩
      rintro e W2 ⟨rfl, hb2⟩
      have hF2 := (hF.later hb).later hb2
      have hV2 := (hV.later hb).later hb2
      have hK2 := (hK0.later hb).later hb2
      have cf := (hF2.2 0 _ rfl).1
      have cv := (hV2.2 0 _ rfl).1
      have zv := (hV2.2 0 _ rfl).2
      have ck := (hK2.2 0 _ rfl).1
      have zk := (hK2.2 0 _ rfl).2
      gi_wp2_with fail
      refine ⟨trivial, (CallsIn.inRound l (callsIn_wide.2 (fits80 _ _))).mono ?_⟩
      rintro e W3 ⟨rfl, rfl⟩
      gi_wp2
      exact ⟨(keepsFrom_of_below hb2).trans (((KeepsOthers.setCell _ _ _).trans (KeepsOthers.setCell _ _ _)).from _), ⟨hok, hno⟩, ((bt hbw hb2).setCell (p := ⟨w.heap.size + 1, 0, none⟩) (Nat.le_succ _) _).setCell (p := ⟨w.heap.size + 1 + 1, 0, none⟩) (by show w.heap.size ≤ w.heap.size + 1 + 1; omega) _, (hV2.set 0 _).keep (by omega) 0 _, (hK2.keep (by omega) 0 _).set 0 _⟩
  case done =>
    rintro D W hD ⟨hb, hno⟩ hK
    have hV2 := hV.later hb
    have hK2 := hK0.later hb
    have cv := (hV2.2 0 _ rfl).1
    have zv := (hV2.2 0 _ rfl).2
    have ck := (hK2.2 0 _ rfl).1
    have zk := (hK2.2 0 _ rfl).2
    gi_wp2
    have hV3 := (hV2.set 0 (.pointer none)).keep (b := w.heap.size + 1 + 1) (by omega) 0 (.bool false)
    have hK3 := (hK2.keep (b := w.heap.size + 1) (by omega) 0 (.pointer none)).set 0 (.bool false)
    have hD3 := ((KeepsOthers.setCell W ⟨w.heap.size + 1, 0, none⟩ (.pointer none)).trans (KeepsOthers.setCell _ ⟨w.heap.size + 1 + 1, 0, none⟩ (.bool false))).same D _ hK rfl
    have hb3 := ((bt hb0 hb).setCell (p := ⟨w.heap.size + 1, 0, none⟩) (Nat.le_succ _) (.pointer none)).setCell (p := ⟨w.heap.size + 1 + 1, 0, none⟩) (by show w.heap.size ≤ w.heap.size + 1 + 1; omega) (.bool false)
    refine ⟨by simp, .inl ⟨_, _, rfl, run_takeDeferred hD3, ?_⟩⟩
    have hVf := hV3.put (.deferred none) hD3 rfl
    have hKf := hK3.put (.deferred none) hD3 rfl
    have c4 := (hVf.2 0 _ rfl).1
    have c5 := (hKf.2 0 _ rfl).1
    exact ⟨.tuple #[.pointer none, .bool false], by simp [results, Tryz.results84, go_sem, c4, c5], .inr ⟨hno, rfl⟩, below_put hb3 _ hD3 (by omega)⟩
  case stop =>
    rintro D i W hD hi ⟨⟨hok, hno⟩, hb, hV2, hK2⟩ hK
    gi_wp2
    refine ⟨by simp, .inl ⟨_, _, rfl, run_takeDeferred hK, ?_⟩⟩
    have hVf := hV2.put (.deferred none) hK rfl
    have hKf := hK2.put (.deferred none) hK rfl
    have c4 := (hVf.2 0 _ rfl).1
    have c5 := (hKf.2 0 _ rfl).1
    exact ⟨.tuple #[.pointer (some (va i)), .bool true], by simp [results, Tryz.results84, go_sem, c4, c5], .inl ⟨i, hi, hok, hno, rfl⟩, below_put hb _ hK (by omega)⟩
end Go.Proofs.YtkpdmgoldngdaabGreatDoor

namespace Go.Proofs.YtkpdmgoldngdaabGreatDoor
open Go.RowKit Go.Extern.Stop Go.Stop Go.Extern
set_option maxRecDepth 100000
set_option linter.unusedVariables false
set_option linter.unusedSimpArgs false
theorem eql41 (a b : Int) (w : World) : (binOp .eql 39 (.iface 42 (.int .i64 a)) (.iface 42 (.int .i64 b))).run Tryz.prog w = .ok (.bool (a == b)) w := by kernel_rfl
theorem methodComparable (h : Value) (w : World) : (Go.method 342 127 (.agg #[h]) "Comparable").run Tryz.prog w = .ok (153, .agg #[h]) w := by kernel_rfl
theorem lacks41_193 (v : Value) (xT : TypeId) (w : World) : (Instr.typeAssert (.iface 42 v) xT 129 true).run Tryz.prog w = .ok (.tuple #[.nilIface, .bool false]) w := run_typeAssert_lacksB Tryz.underlying129 (by kernel_rfl) (by kernel_rfl) v xT w
set_option maxHeartbeats 2000000 in
theorem is_loop (a b : Int) (w : World) : Calls Tryz.prog 55 #[.iface 42 (.int .i64 a), .iface 42 (.int .i64 b), .bool true] w fun e w' => e = .returned (.bool (a == b)) ∧ w' = w := by
  have he := eql41 a b
  have f1 := lacks41_193
  have f2 := lacks41_195
  have f3 := lacks41_197
  rcases Bool.eq_false_or_eq_true (a == b) with hab | hab
  · rw [hab] at he ⊢
    go_enter Tryz.func55, Tryz.ntmps55
    go_wp2
    refine wp_loop_rounds 1 ?_
    rw [rounds_succ]
    go_wp2
    go_ret
    exact ⟨rfl, rfl⟩
  · rw [hab] at he ⊢
    go_enter Tryz.func55, Tryz.ntmps55
    go_wp2
    refine wp_loop_rounds 1 ?_
    rw [rounds_succ]
    go_wp2
    go_ret
    exact ⟨rfl, rfl⟩
set_option maxHeartbeats 2000000 in
theorem is_any (a b : Int) (w : World) : Calls Tryz.prog 25 #[.iface 42 (.int .i64 a), .iface 42 (.int .i64 b)] w fun e w' => e = .returned (.bool (a == b)) ∧ w' = w := by
  have h10 := @run_callFunc_extern Tryz.prog 54 _ ReflectliteType.typeOf Tryz.func54 (by kernel_rfl) (by kernel_rfl) (by kernel_rfl) (by kernel_rfl)
  have tO := typeOf41
  have mC := methodComparable
  have hC : ∀ w, (callFunc 153 #[.agg #[.pointer (some ⟨3, 42, none⟩)]]).run Tryz.prog w = .ok (.value (.bool true)) w := fun w => by kernel_rfl
  go_enter Tryz.func25, Tryz.ntmps25
  go_wp2_with fail
  refine (is_loop a b _).mono ?_
  rintro e w1 ⟨rfl, rfl⟩
  go_wp2
  go_ret
  exact ⟨rfl, rfl⟩
end Go.Proofs.YtkpdmgoldngdaabGreatDoor

namespace Go.Proofs.YtkpdmgoldngdaabGreatDoor
open Go.RowKit
set_option maxRecDepth 100000
set_option linter.unusedVariables false
set_option linter.unusedSimpArgs false
theorem chain_nil (w : World) : ChainOf w [] := ⟨by simp, fun i x h => by simp at h⟩
theorem chain_fail (p : Nat) (l : ByteArray) (a c : Int) (w : World) (h : At w p #[.string l, .int .i64 a, .iface 42 (.int .i64 c)]) : ChainOf w [.iface 70 (.pointer (some ⟨p, 0, none⟩)), .iface 42 (.int .i64 c)] := by
  refine ⟨by simp, fun i x hx => ?_⟩
  match i, hx with
  | 0, hx =>
    obtain rfl : .iface 70 (.pointer (some ⟨p, 0, none⟩)) = x := by simpa using hx
    exact ⟨⟨_, _, rfl⟩, fun W hW => wrap_fail p l a 42 (.int .i64 c) W (h.later hW)⟩
  | 1, hx =>
    obtain rfl : .iface 42 (.int .i64 c) = x := by simpa using hx
    exact ⟨⟨_, _, rfl⟩, fun W hW => wrap_code c W⟩
  | n + 2, hx => simp at hx
set_option maxHeartbeats 1000000 in
theorem Cfirst_fail (p : Nat) (l : ByteArray) (a c : Int) (w : World) (hE : Ety w) (h : At w p #[.string l, .int .i64 a, .iface 42 (.int .i64 c)]) :
    Calls Tryz.prog 56 #[.iface 70 (.pointer (some ⟨p, 0, none⟩)), .func (.func 57) #[] #[]] w fun e w' => e = .returned (.tuple #[.int .i64 c, .bool true]) ∧ Below w.heap.size w w' := by
  refine (firstC [.iface 70 (.pointer (some ⟨p, 0, none⟩)), .iface 42 (.int .i64 c)] (fun i => match i with | 1 => true | _ => false) (fun _ => c) 70 (.pointer (some ⟨p, 0, none⟩)) w rfl (chain_fail p l a c w h) ?_ ?_).mono ?_
  · intro i x W hx hok hW
    match i, hx, hok with
    | 0, hx, hok =>
      obtain rfl : .iface 70 (.pointer (some ⟨p, 0, none⟩)) = x := by simpa using hx
      exact own82_fail p W
    | 1, hx, hok => simp at hok
    | n + 2, hx, hok => simp at hx
  · intro i x W hx hok hW
    match i, hx, hok with
    | 0, hx, hok => simp at hok
    | 1, hx, hok =>
      obtain rfl : .iface 42 (.int .i64 c) = x := by simpa using hx
      exact own82_code c W (hE.later hW)
    | n + 2, hx, hok => simp at hx
  · rintro e w' ⟨(⟨i, hi, hok, hno, rfl⟩ | ⟨hno, rfl⟩), hb⟩
    · exact ⟨rfl, hb⟩
    · have := hno 1 (by simp)
      simp at this
set_option maxHeartbeats 1000000 in
theorem Ffirst_fail (p : Nat) (l : ByteArray) (a c : Int) (w : World) (hE : Ety w) (h : At w p #[.string l, .int .i64 a, .iface 42 (.int .i64 c)]) :
    Calls Tryz.prog 84 #[.iface 70 (.pointer (some ⟨p, 0, none⟩)), .func (.func 85) #[] #[]] w fun e w' => e = .returned (.tuple #[.pointer (some ⟨p, 0, none⟩), .bool true]) ∧ Below w.heap.size w w' := by
  refine (firstF [.iface 70 (.pointer (some ⟨p, 0, none⟩)), .iface 42 (.int .i64 c)] (fun i => match i with | 0 => true | _ => false) (fun _ => ⟨p, 0, none⟩) 70 (.pointer (some ⟨p, 0, none⟩)) w rfl (chain_fail p l a c w h) ?_ ?_).mono ?_
  · intro i x W hx hok hW
    match i, hx, hok with
    | 0, hx, hok => simp at hok
    | 1, hx, hok =>
      obtain rfl : .iface 42 (.int .i64 c) = x := by simpa using hx
      exact own124_code c W
    | n + 2, hx, hok => simp at hx
  · intro i x W hx hok hW
    match i, hx, hok with
    | 0, hx, hok =>
      obtain rfl : .iface 70 (.pointer (some ⟨p, 0, none⟩)) = x := by simpa using hx
      exact own124_fail p W (hE.later hW)
    | 1, hx, hok => simp at hok
    | n + 2, hx, hok => simp at hx
  · rintro e w' ⟨(⟨i, hi, hok, hno, rfl⟩ | ⟨hno, rfl⟩), hb⟩
    · exact ⟨rfl, hb⟩
    · have := hno 0 (by simp)
      simp at this
theorem Ffirst_nil (w : World) :
    Calls Tryz.prog 84 #[.nilIface, .func (.func 85) #[] #[]] w fun e w' => e = .returned (.tuple #[.pointer none, .bool false]) ∧ Below w.heap.size w w' := by
  refine (firstFn [] (fun _ => false) (fun _ => ⟨0, 0, none⟩) w rfl (chain_nil w) (fun i x W hx => by simp at hx) (fun i x W hx => by simp at hx)).mono ?_
  rintro e w' ⟨(⟨i, hi, hok, hno, rfl⟩ | ⟨hno, rfl⟩), hb⟩
  · simp at hi
  · exact ⟨rfl, hb⟩
set_option maxHeartbeats 1000000 in
theorem out_fail (p : Nat) (l : ByteArray) (a c : Int) (w : World) (hE : Ety w) (h : At w p #[.string l, .int .i64 a, .iface 42 (.int .i64 c)]) : Calls Tryz.prog 67 #[.iface 70 (.pointer (some ⟨p, 0, none⟩))] w fun e w' => e = .returned (.tuple #[.pointer (some ⟨p, 0, none⟩), .bool true]) ∧ Below w.heap.size w w' := by
  go_enter Tryz.func67, Tryz.ntmps67
  go_wp2_with fail
  refine (Ffirst_fail p l a c w hE h).mono ?_
  rintro e w1 ⟨rfl, hb⟩
  go_wp2
  go_ret2
  exact ⟨rfl, hb⟩
set_option maxHeartbeats 1000000 in
theorem out_nil (w : World)  : Calls Tryz.prog 67 #[.nilIface] w fun e w' => e = .returned (.tuple #[.pointer none, .bool false]) ∧ Below w.heap.size w w' := by
  go_enter Tryz.func67, Tryz.ntmps67
  go_wp2_with fail
  refine (Ffirst_nil w).mono ?_
  rintro e w1 ⟨rfl, hb⟩
  go_wp2
  go_ret2
  exact ⟨rfl, hb⟩
set_option maxHeartbeats 1000000 in
theorem code_fail (p : Nat) (l : ByteArray) (a c : Int) (w : World) (hE : Ety w) (h : At w p #[.string l, .int .i64 a, .iface 42 (.int .i64 c)]) : Calls Tryz.prog 26 #[.iface 70 (.pointer (some ⟨p, 0, none⟩))] w fun e w' => e = .returned (.int .i64 c) ∧ Below w.heap.size w w' := by
  go_enter Tryz.func26, Tryz.ntmps26
  go_wp2_with fail
  refine (Cfirst_fail p l a c w hE h).mono ?_
  rintro e w1 ⟨rfl, hb⟩
  go_wp2
  go_ret
  exact ⟨rfl, hb⟩
set_option maxHeartbeats 1000000 in
theorem is_fail (p : Nat) (l : ByteArray) (a c : Int) (d : Int) (w : World) (hE : Ety w) (h : At w p #[.string l, .int .i64 a, .iface 42 (.int .i64 c)]) : Calls Tryz.prog 10 #[.iface 70 (.pointer (some ⟨p, 0, none⟩)), .int .i64 d] w fun e w' => e = .returned (.bool (c == d)) ∧ Below w.heap.size w w' := by
  go_enter Tryz.func10, Tryz.ntmps10
  go_wp2_with fail
  refine (code_fail p l a c w hE h).mono ?_
  rintro e w1 ⟨rfl, hb⟩
  go_wp2_with fail
  refine (is_any c d _).mono ?_
  rintro e w2 ⟨rfl, rfl⟩
  go_wp2
  go_ret
  exact ⟨rfl, hb⟩
set_option maxHeartbeats 4000000 in
theorem shift_fail (p : Nat) (l : ByteArray) (a c : Int) (b : Int) (w : World) (hE : Ety w) (h : At w p #[.string l, .int .i64 a, .iface 42 (.int .i64 c)]) (ha0 : 0 ≤ a) (ha1 : a ≤ 140737488365328) (hb0 : -1000 < b) (hb1 : b < 1000) : Calls Tryz.prog 31 #[.iface 70 (.pointer (some ⟨p, 0, none⟩)), .int .i64 b] w fun e w' => ∃ q, e = .returned (.iface 70 (.pointer (some ⟨q, 0, none⟩))) ∧ w.heap.size ≤ q ∧ At w' q #[.string l, .int .i64 (a + b), .iface 42 (.int .i64 c)] ∧ Below w.heap.size w w' := by
  have hw : IntKind.i64.wrap (a + b) = a + b := by rw [IntKind.wrap_i64]; omega
  have hbu : ∀ W, (Instr.build 72 #[(0, .string l), (1, .int .i64 (a + b)), (2, .iface 42 (.int .i64 c))]).run Tryz.prog W = .ok (.agg #[.string l, .int .i64 (a + b), .iface 42 (.int .i64 c)]) W := fun W => run_build W 72 _ _ (by kernel_rfl)
  go_enter Tryz.func31, Tryz.ntmps31
  go_wp2_with fail
  refine (out_fail p l a c w hE h).mono ?_
  rintro e w1 ⟨rfl, hb⟩
  replace h := h.later hb
  have c0 := (h.2 0 _ rfl).1
  have c1 := (h.2 1 _ rfl).1
  have c2 := (h.2 2 _ rfl).1
  go_wp2
  go_region
  go_wp2
  go_ret
  exact ⟨_, rfl, by simpa using hb.size, At.box w1.drew #[.string l, .int .i64 (a + b), .iface 42 (.int .i64 c)] 72, bt hb.drew (bel1 w1.drew _)⟩
set_option maxHeartbeats 2000000 in
theorem shift_nil (b : Int) (w : World)  : Calls Tryz.prog 31 #[.nilIface, .int .i64 b] w fun e w' => e = .returned (.nilIface) ∧ Below w.heap.size w w' := by
  go_enter Tryz.func31, Tryz.ntmps31
  go_wp2_with fail
  refine (out_nil w).mono ?_
  rintro e w1 ⟨rfl, hb⟩
  go_wp2
  go_ret
  exact ⟨rfl, hb⟩
end Go.Proofs.YtkpdmgoldngdaabGreatDoor
