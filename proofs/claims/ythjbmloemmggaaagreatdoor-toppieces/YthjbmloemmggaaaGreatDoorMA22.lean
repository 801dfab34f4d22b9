/- the texts Ez, Xa, Xr, Xb, Xc, Xd, Xq, Xe, in part, merged by program -/
import Derived.Test.YthjbmloemmggaaaGreatDoorProg
import Derived.Test.YthjbmloemmggaaaGreatDoorRows
import Derived.WalkKit
import Derived.WalkSpells
import Derived.Laws.OwnMore
import Derived.Laws.AppendOwn
import Derived.Laws.AppendOwnNone
import Derived.LaidEql
import Derived.Stop.Asserts
import Derived.RowKitTokens
import Derived.RangeFuncNested
import Derived.RangeFuncLeaves
import Derived.Shelf.Abstract
import Derived.Recover
import Derived.RangeFuncBox
import Derived.OwnWalkIn
import Derived.TacticsInMore
import Derived.LoopNIn
import Derived.LoopIn
import Derived.Maps.AppendAt
import Derived.Shelf.RegionOpen
import Derived.OrdersIn
import Derived.RangeFuncCalls
import Derived.Deep.Light
import Derived.RegionTactic
import Derived.Below
import Derived.Laws.Tables
import Derived.Great.BuildSlice
import Derived.Deep.LoopGhost
import Derived.Lib.Repeat
import Derived.Deep.RegionHeld3
import Derived.Deep.QuietTactic
import Derived.BigQuiet
import Derived.WalkSmall
import Derived.Laws.StructEq
import Derived.Test.YthjbmloemmggaaaGreatDoorMA01
import Derived.Test.YthjbmloemmggaaaGreatDoorMA02
import Derived.Test.YthjbmloemmggaaaGreatDoorMA16
namespace Go.Proofs.YthjbmloemmggaaaGreatDoor
open Go.RowKit
def Ety (W : World) : Prop := W.cell? ⟨1, 0, none⟩ = some (.iface 229 (.agg #[.pointer (some ⟨2, 58, none⟩)]))
theorem Ety.later {w x : World} (h : Ety w) (hb : Below w.heap.size w x) : Ety x := by
  have hlt : 1 < w.heap.size := by
    rcases Nat.lt_or_ge 1 w.heap.size with h1 | h1
    · exact h1
    · simp [Ety, World.cell?, Array.getElem?_eq_none h1] at h
  exact (hb.cell (p := ⟨1, 0, none⟩) hlt).trans h
def OrE (W : World) : Prop := Ord W ∧ Ety W
theorem OrE.later {w x : World} (h : OrE w) (hb : Below w.heap.size w x) : OrE x := ⟨h.1.later hb, h.2.later hb⟩
end Go.Proofs.YthjbmloemmggaaaGreatDoor

namespace Go.Proofs.YthjbmloemmggaaaGreatDoor
open Go.RowKit Go.Extern.Stop Go.Stop Go.Extern
set_option maxRecDepth 100000
set_option linter.unusedVariables false
theorem methodKind (h : Value) (w : World) : (Go.method 361 229 (.agg #[h]) "Kind").run Tryz.prog w = .ok (159, h) w := by kernel_rfl
theorem methodElem (h : Value) (w : World) : (Go.method 361 229 (.agg #[h]) "Elem").run Tryz.prog w = .ok (172, .agg #[h]) w := by kernel_rfl
theorem methodImplements (h : Value) (w : World) : (Go.method 361 229 (.agg #[h]) "Implements").run Tryz.prog w = .ok (173, .agg #[h]) w := by kernel_rfl
theorem methodAssignableTo (h : Value) (w : World) : (Go.method 361 229 (.agg #[h]) "AssignableTo").run Tryz.prog w = .ok (170, .agg #[h]) w := by kernel_rfl
theorem rlm (z : Sem Value) (f : TypeId → Addr → Nat → Nat → Sem Value) (v : Value) :
    ReflectliteValue.method z f #[v] = (do match ← ReflectliteValue.parts v with | none => z | some (t, a, fl) => f t a fl (fl % 32)) := rfl
theorem rls (v x : Value) : ReflectliteValue.set #[v, x] = (do
    let (some (dst, a, fl), some (src, b, _)) := (← ReflectliteValue.parts v, ← ReflectliteValue.parts x)
      | unsupported (.noEntry "extern/(internal/reflectlite.Value).Set.zeroValue")
    if fl / ReflectliteValue.flagAddr % 2 == 0 then unsupported (.noEntry "extern/(internal/reflectlite.Value).Set.unaddressable")
    let val ← loadVar src b
    if ← Rtype.directlyAssignable dst src then storeVar dst a val
    else if ← Rtype.implements dst src then
      if (← Rtype.kind src) == 20 then
        match val with
        | .nilIface => unsupported (.noEntry "extern/reflectlite: a nil value of one interface type handed on as a value of another")
        | _ => storeVar dst a val
      else storeVar dst a (.iface src val)
    else panicString ("reflectlite.Set: value of type " ++ (← Rtype.spelt src) ++ " is not assignable to type " ++ (← Rtype.spelt dst))
    pure (.tuple #[])) := rfl

theorem valueOf202 (t : Addr) (w : World) : (ReflectliteValue.unpack (.iface 193 (.pointer (some t)))).run Tryz.prog w
    = .ok (.agg #[.pointer (some ⟨2, 193, none⟩), .pointer (some ⟨w.heap.size, 0, none⟩), .int .u64 150]) (w.alloc (.cells #[.pointer (some t)] 193)) := by kernel_rfl
theorem type202 (a : Addr) (w : World) : (ReflectliteValue.methodAny (ReflectliteValue.valueError "reflectlite.Value.Type" 0) (fun t _ _ _ => ReflectliteType.toType t) #[.agg #[.pointer (some ⟨2, 193, none⟩), .pointer (some a), .int .u64 150]]).run Tryz.prog w
    = .ok (.iface 229 (.agg #[.pointer (some ⟨2, 193, none⟩)])) w := by kernel_rfl
theorem kind202 (w : World) : ((ReflectliteType.abiMethod fun t => (fun a : Nat => Value.int IntKind.u8 (a : Int)) <$> Rtype.kind t) #[.pointer (some ⟨2, 193, none⟩)]).run Tryz.prog w = .ok (.int .u8 22) w := by kernel_rfl
theorem kind88 (w : World) : ((ReflectliteType.abiMethod fun t => (fun a : Nat => Value.int IntKind.u8 (a : Int)) <$> Rtype.kind t) #[.pointer (some ⟨2, 103, none⟩)]).run Tryz.prog w = .ok (.int .u8 22) w := by kernel_rfl
theorem parts202 (a : Addr) (w : World) : (ReflectliteValue.parts (.agg #[.pointer (some ⟨2, 193, none⟩), .pointer (some a), .int .u64 150])).run Tryz.prog w = .ok (some (193, a, 150)) w := by kernel_rfl
theorem isNil202 (a p : Addr) (W : World) (ha : W.cell? a = some (.pointer (some p))) :
    (ReflectliteValue.method (ReflectliteValue.valueError "reflectlite.Value.IsNil" 0) ReflectliteValue.isNil #[.agg #[.pointer (some ⟨2, 193, none⟩), .pointer (some a), .int .u64 150]]).run Tryz.prog W = .ok (.bool false) W := by
  rw [rlm]
  simp only [Sem.run_bind, parts202, Result.andThen]
  simp [ReflectliteValue.isNil, loadVar, isAgg, underlying, Tryz.underlying193, ha, Result.andThen]
theorem elem202 (w : World) : (ReflectliteType.method ReflectliteType.elem #[.agg #[.pointer (some ⟨2, 193, none⟩)]]).run Tryz.prog w = .ok (.iface 229 (.agg #[.pointer (some ⟨2, 103, none⟩)])) w := by kernel_rfl
theorem implements88 (w : World) : (ReflectliteType.relation "Implements" ReflectliteType.implements_ #[.agg #[.pointer (some ⟨2, 103, none⟩)], .iface 229 (.agg #[.pointer (some ⟨2, 58, none⟩)])]).run Tryz.prog w = .ok (.bool true) w := by kernel_rfl
theorem typeOf88 (v : Value) (w : World) : (ReflectliteType.typeOf #[.iface 103 v]).run Tryz.prog w = .ok (.iface 229 (.agg #[.pointer (some ⟨2, 103, none⟩)])) w := by kernel_rfl
theorem assignable88 (w : World) : (ReflectliteType.relation "AssignableTo" ReflectliteType.assignableTo #[.agg #[.pointer (some ⟨2, 103, none⟩)], .iface 229 (.agg #[.pointer (some ⟨2, 103, none⟩)])]).run Tryz.prog w = .ok (.bool true) w := by kernel_rfl
theorem valueOf88 (e : Addr) (w : World) : (ReflectliteValue.unpack (.iface 103 (.pointer (some e)))).run Tryz.prog w
    = .ok (.agg #[.pointer (some ⟨2, 103, none⟩), .pointer (some ⟨w.heap.size, 0, none⟩), .int .u64 150]) (w.alloc (.cells #[.pointer (some e)] 103)) := by kernel_rfl
theorem elemOf202 (w : World) : (Rtype.elem? 193).run Tryz.prog w = .ok (some 103) w := by kernel_rfl
theorem mk88 (p : Addr) (w : World) : (ReflectliteValue.mk 103 p ReflectliteValue.flagAddr).run Tryz.prog w = .ok (.agg #[.pointer (some ⟨2, 103, none⟩), .pointer (some p), .int .u64 406]) w := by kernel_rfl
theorem elemV202 (a p : Addr) (W : World) (ha : W.cell? a = some (.pointer (some p))) :
    (ReflectliteValue.method (ReflectliteValue.valueError "reflectlite.Value.Elem" 0) ReflectliteValue.elem #[.agg #[.pointer (some ⟨2, 193, none⟩), .pointer (some a), .int .u64 150]]).run Tryz.prog W
      = .ok (.agg #[.pointer (some ⟨2, 103, none⟩), .pointer (some p), .int .u64 406]) W := by
  rw [rlm]
  simp only [Sem.run_bind, parts202, Result.andThen]
  simp [ReflectliteValue.elem, loadVar, isAgg, underlying, Tryz.underlying193, ha, Result.andThen, elemOf202, mk88]
theorem parts88a (a : Addr) (w : World) : (ReflectliteValue.parts (.agg #[.pointer (some ⟨2, 103, none⟩), .pointer (some a), .int .u64 406])).run Tryz.prog w = .ok (some (103, a, 406)) w := by kernel_rfl
theorem parts88 (a : Addr) (w : World) : (ReflectliteValue.parts (.agg #[.pointer (some ⟨2, 103, none⟩), .pointer (some a), .int .u64 150])).run Tryz.prog w = .ok (some (103, a, 150)) w := by kernel_rfl
theorem direct88 (w : World) : (Rtype.directlyAssignable 103 103).run Tryz.prog w = .ok true w := by kernel_rfl
theorem set88 (ta b : Addr) (e : Addr) (old : Value) (W : World) (hb : W.cell? b = some (.pointer (some e))) (ht : W.cell? ta = some old) (hf : W.frozen? ta = false) :
    (ReflectliteValue.set #[.agg #[.pointer (some ⟨2, 103, none⟩), .pointer (some ta), .int .u64 406], .agg #[.pointer (some ⟨2, 103, none⟩), .pointer (some b), .int .u64 150]]).run Tryz.prog W
      = .ok (.tuple #[]) (W.setCell ta (.pointer (some e))) := by
  rw [rls]
  simp only [Sem.run_bind, parts88a, parts88, Result.andThen]
  simp [ReflectliteValue.flagAddr, loadVar, isAgg, underlying, Tryz.underlying103, hb, Result.andThen, direct88, storeVar, Value.cells, storeCells, Addr.add]
  rw [run_store Tryz.prog W ta _ _ (by rfl)]
  simp [ht, hf]

set_option maxHeartbeats 4000000 in
theorem as_fail (t : Addr) (e : Addr) (old : Value) (w : World) (hg : w.cell? ⟨1, 0, none⟩ = some (.iface 229 (.agg #[.pointer (some ⟨2, 58, none⟩)]))) (ht0 : w.cell? t = some old) (hf0 : w.frozen? t = false) :
    Calls Tryz.prog 127 #[.iface 103 (.pointer (some e)), .iface 193 (.pointer (some t))] w fun ev w' => ev = .returned (.bool true) ∧ w' = ((((w.alloc (.cells #[.pointer (some t)] 193)).alloc (.cells #[.pointer (some ⟨2, 193, none⟩), .pointer (some ⟨w.heap.size, 0, none⟩), .int .u64 150] 212)).alloc (.cells #[.pointer (some ⟨2, 193, none⟩), .pointer (some ⟨w.heap.size, 0, none⟩), .int .u64 150] 212)).alloc (.cells #[.pointer (some e)] 103)).setCell t (.pointer (some e)) := by
  have h6 := @run_callFunc_extern Tryz.prog 134 _ (fun args => ReflectliteValue.unpack (args.getD 0 (.tuple #[]))) Tryz.func134 (by kernel_rfl) (by kernel_rfl) (by kernel_rfl) (by kernel_rfl)
  have h7 := @run_callFunc_extern Tryz.prog 135 _ (ReflectliteValue.methodAny (ReflectliteValue.valueError "reflectlite.Value.Type" 0) (fun t _ _ _ => ReflectliteType.toType t)) Tryz.func135 (by kernel_rfl) (by kernel_rfl) (by kernel_rfl) (by kernel_rfl)
  have h8 := @run_callFunc_extern Tryz.prog 136 _ (ReflectliteValue.method (ReflectliteValue.valueError "reflectlite.Value.IsNil" 0) ReflectliteValue.isNil) Tryz.func136 (by kernel_rfl) (by kernel_rfl) (by kernel_rfl) (by kernel_rfl)
  have h27 := @run_callFunc_extern Tryz.prog 159 _ (ReflectliteType.abiMethod fun t => do pure (.int .u8 (← Rtype.kind t))) Tryz.func159 (by kernel_rfl) (by kernel_rfl) (by kernel_rfl) (by kernel_rfl)
  have h37 := @run_callFunc_extern Tryz.prog 172 _ (ReflectliteType.method ReflectliteType.elem) Tryz.func172 (by kernel_rfl) (by kernel_rfl) (by kernel_rfl) (by kernel_rfl)
  have h38 := @run_callFunc_extern Tryz.prog 173 _ (ReflectliteType.relation "Implements" ReflectliteType.implements_) Tryz.func173 (by kernel_rfl) (by kernel_rfl) (by kernel_rfl) (by kernel_rfl)
  have h10 := @run_callFunc_extern Tryz.prog 142 _ ReflectliteType.typeOf Tryz.func142 (by kernel_rfl) (by kernel_rfl) (by kernel_rfl) (by kernel_rfl)
  have h35 := @run_callFunc_extern Tryz.prog 170 _ (ReflectliteType.relation "AssignableTo" ReflectliteType.assignableTo) Tryz.func170 (by kernel_rfl) (by kernel_rfl) (by kernel_rfl) (by kernel_rfl)
  have h11 := @run_callFunc_extern Tryz.prog 143 _ (ReflectliteValue.method (ReflectliteValue.valueError "reflectlite.Value.Elem" 0) ReflectliteValue.elem) Tryz.func143 (by kernel_rfl) (by kernel_rfl) (by kernel_rfl) (by kernel_rfl)
  have h12 := @run_callFunc_extern Tryz.prog 144 _ ReflectliteValue.set Tryz.func144 (by kernel_rfl) (by kernel_rfl) (by kernel_rfl) (by kernel_rfl)
  have tO := typeOf88
  have mA := methodAssignableTo
  have a25 := assignable88
  have v25 := valueOf88
  have f6 := valueOf202
  have f7 := type202
  have mK := methodKind
  have mE := methodElem
  have mI := methodImplements
  have k27 := kind202
  have k25 := kind88
  have e27 := elem202
  have i25 := implements88
  have n8 := isNil202 ⟨w.heap.size, 0, none⟩ t ((w.alloc (.cells #[.pointer (some t)] 193)).alloc (.cells #[.pointer (some ⟨2, 193, none⟩), .pointer (some ⟨w.heap.size, 0, none⟩), .int .u64 150] 212)) (by simp)
  have hlt : 1 < w.heap.size := by
    rcases Nat.lt_or_ge 1 w.heap.size with h | h
    · exact h
    · simp [World.cell?, Array.getElem?_eq_none h] at hg
  have hg2 : ((w.alloc (.cells #[.pointer (some t)] 193)).alloc (.cells #[.pointer (some ⟨2, 193, none⟩), .pointer (some ⟨w.heap.size, 0, none⟩), .int .u64 150] 212)).cell? ⟨1, 0, none⟩ = some (.iface 229 (.agg #[.pointer (some ⟨2, 58, none⟩)])) := by
    rw [World.cell?_alloc_lt _ _ ⟨1, 0, none⟩ (by simp; omega), World.cell?_alloc_lt _ _ ⟨1, 0, none⟩ hlt]; exact hg
  have htl : t.block < w.heap.size := by
    rcases Nat.lt_or_ge t.block w.heap.size with h | h
    · exact h
    · simp [World.cell?, Array.getElem?_eq_none h] at ht0
  have el := elemV202 ⟨w.heap.size, 0, none⟩ t (((w.alloc (.cells #[.pointer (some t)] 193)).alloc (.cells #[.pointer (some ⟨2, 193, none⟩), .pointer (some ⟨w.heap.size, 0, none⟩), .int .u64 150] 212)).alloc (.cells #[.pointer (some ⟨2, 193, none⟩), .pointer (some ⟨w.heap.size, 0, none⟩), .int .u64 150] 212)) (by rw [World.cell?_alloc_lt _ _ ⟨w.heap.size, 0, none⟩ (by simp; omega)]; simp)
  have st := set88 t ⟨w.heap.size + 1 + 1 + 1, 0, none⟩ e old ((((w.alloc (.cells #[.pointer (some t)] 193)).alloc (.cells #[.pointer (some ⟨2, 193, none⟩), .pointer (some ⟨w.heap.size, 0, none⟩), .int .u64 150] 212)).alloc (.cells #[.pointer (some ⟨2, 193, none⟩), .pointer (some ⟨w.heap.size, 0, none⟩), .int .u64 150] 212)).alloc (.cells #[.pointer (some e)] 103))
    (by rw [World.cell?_alloc_at _ _ _ _ (by simp)]; rfl)
    (by rw [World.cell?_alloc_lt _ _ t (by simp; omega), World.cell?_alloc_lt _ _ t (by simp; omega), World.cell?_alloc_lt _ _ t (by simp; omega), World.cell?_alloc_lt _ _ t htl]; exact ht0)
    (by rw [World.frozen?_alloc_old _ _ t (by simp; omega), World.frozen?_alloc_old _ _ t (by simp; omega), World.frozen?_alloc_old _ _ t (by simp; omega), World.frozen?_alloc_old _ _ t (Nat.ne_of_lt htl)]; exact hf0)
  go_enter Tryz.func127, Tryz.ntmps127
  go_wp2
  refine wp_loop_rounds 1 ?_
  rw [rounds_succ]
  go_wp2
  go_ret
  exact ⟨rfl, rfl⟩

end Go.Proofs.YthjbmloemmggaaaGreatDoor

namespace Go.Proofs.YthjbmloemmggaaaGreatDoor
open Go.RowKit Go
set_option linter.unusedVariables false
def ItRuns {α : Type} (F : Fence) (n : Nat) (P : Program) (g : Nat) (lb : Array Value) (encs : α → Array Value) (Kp : World → World → Prop) (St : Nat → World → World → Prop) (xs : List α) (w : World) : Prop :=
  ∀ (l : Nat) (J Jx : Nat → World → Prop) (W : World), Below w.heap.size w W → (∀ i A B, J i A → St W.heap.size A B → J i B) →
    (∀ i x W1, xs[i]? = some x → J i W1 → YieldAt F (n - 1) P l (encs x) W1 fun e W' => (e = .returned (.bool true) ∧ J (i + 1) W' ∧ Kp W1 W') ∨ (e = .returned (.bool false) ∧ Jx i W')) →
    J 0 W →
    CallsIn F n P g (#[.func (.yield l) #[] #[]] ++ lb) W fun e W' => (∃ v, e = .returned v) ∧ (J xs.length W' ∨ ∃ i, i < xs.length ∧ Jx i W')

def itPost (B : Nat) (Bd : World → World → Prop) (I Ix : Nat → World → Prop) (i : Nat) (W : World) : Exit → Act → World → Prop
  | .normal, _, W' => KeepsFrom B W W' ∧ Bd W W' ∧ I (i + 1) W'
  | .ret, _, W' => KeepsFrom B W W' ∧ Ix i W'
  | _, _, _ => False

theorem round_below {W W3 : World} {l : Nat} {o o' : Obj} (hl : W.heap[l]? = some o) (h : Below (W.putObj l o').heap.size (W.putObj l o') W3) : Below W.heap.size W (W3.putObj l o) := by
  have hlt : l < W.heap.size := (Array.getElem?_eq_some_iff.1 hl).1
  have hs : (W.putObj l o').heap.size = W.heap.size := by simp
  rw [hs] at h
  have h3 : W.heap.size ≤ W3.heap.size := by have := h.size; rw [hs] at this; exact this
  refine ⟨h.os, h.tape, h.output, by simpa using h3, fun k hk => ?_⟩
  by_cases e : k = l
  · subst e
    rw [World.putObj_heap_same (by omega), hl]
  · rw [World.putObj_heap_other (fun e' => e e'), h.block k hk, World.putObj_heap_other (fun e' => e e')]
theorem keepsFrom_of_below {B : Nat} {W W' : World} (h : Below W.heap.size W W') : KeepsFrom B W W' :=
  ⟨h.size, fun k o _ hk _ => (h.block k (Array.getElem?_eq_some_iff.1 hk).1).trans hk⟩

set_option maxHeartbeats 1000000 in
theorem wpIn_range_it {F : Fence} {n : Nat} {P : Program} {α : Type} {g : Operand} {ps : Array Tmp} {assign body : Code} {Q : Exit → Act → World → Prop} {a : Act} {w : World}
    (hro : F.round = none) (h1 : 1 ≤ n) {gf : Nat} {lb : Array Value} (hg : a.eval g = .func (.func gf) #[] lb) (hFg : F.fn gf) (eg : ∀ args w, (callFunc gf args).run P w = .ok (.enter gf args) w)
    {encs : α → Array Value} {Kp Bd : World → World → Prop} {St : Nat → World → World → Prop} {xs : List α} {w0 : World} (hseq : ItRuns F (n - 1) P gf lb encs Kp St xs w0)
    (hb0 : Below w0.heap.size w0 w) (hps : ∀ x, (encs x).size = ps.size)
    (I Ix : Nat → World → Prop) (h0 : I 0 w)
    (hIs : ∀ i s A B, w.heap.size + 2 ≤ s → I i A → St s A B → I i B)
    (hSt : ∀ s k A B (o : Obj), k < s → A.heap[k]? = some o → o.isCells = false → St s A B → B.heap[k]? = some o)
    (hIa : ∀ i A (o : Obj), I i A → I i (A.alloc o))
    (hIp : ∀ i A (l : Nat) (o o' : Obj), w.heap.size ≤ l → A.heap[l]? = some o → o.isCells = false → I i A → I i (A.putObj l o'))
    (hXp : ∀ i A (l : Nat) (o o' : Obj), w.heap.size ≤ l → A.heap[l]? = some o → o.isCells = false → Ix i A → Ix i (A.putObj l o'))
    (hKp : ∀ W W3 (l : Nat) (o o' : Obj), W.heap[l]? = some o → Bd (W.putObj l o') W3 → Kp W (W3.putObj l o))
    (a₁ : α → Act)
    (hassign : ∀ (l : Nat) (x : α) (W : World) (K : Act → World → Prop), K (a₁ x) W →
      assign.wpIn (F.inRound l) (n - 1 - 1) P (Exit.then K (fun _ _ _ => False)) { tmps := (ps.zip (encs x)).foldl (fun t (p, v) => t.setIfInBounds p v) a.tmps, defers := [] } W)
    (hbody : ∀ (l i : Nat) (x : α) (W : World), xs[i]? = some x → w.heap.size + 2 ≤ W.heap.size → I i W → body.wpIn (F.inRound l) (n - 1 - 1) P (itPost w.heap.size Bd I Ix i W) (a₁ x) W)
    (hdone : ∀ (D : Nat) (W : World), w.heap.size ≤ D → I xs.length W → W.heap[D]? = some (.deferred (some [])) → Q .normal { a with defers := { target := .collected D, args := #[] } :: a.defers } W)
    (hstop : ∀ (D i : Nat) (W : World), w.heap.size ≤ D → i < xs.length → Ix i W → W.heap[D]? = some (.deferred (some [])) → Code.ret.wpIn F n P Q { a with defers := { target := .collected D, args := #[] } :: a.defers } W) :
    (Code.rangeFunc g ps assign body).wpIn F n P Q a w := by
  refine wpIn_rangeFunc ?_
  intro fn hfn
  rw [hro]
  obtain ⟨rec, hrec⟩ : ∃ rec : LoopState → Option Code → Loop, rec = fun st pe => { state := st, pending := pe, fn, tmps := a.tmps, params := ps, assign, body, defers := w.heap.size } := ⟨_, rfl⟩
  obtain ⟨W1, hW1⟩ : ∃ W1, (w.alloc (.deferred (some []))).alloc (.loop (rec .ready none)) = W1 := ⟨_, rfl⟩
  have hL1 : W1.heap[w.heap.size + 1]? = some (.loop (rec .ready none)) := by
    rw [← hW1]; have := World.alloc_heap_new (w.alloc (.deferred (some []))) (.loop (rec .ready none)); rwa [World.size_alloc] at this
  have hK1 : W1.heap[w.heap.size]? = some (.deferred (some [])) := by
    rw [← hW1]; exact (Below.heap_alloc _ _ _ (by simp)).trans (World.alloc_heap_new w _)
  have hI1 : I 0 W1 := by rw [← hW1]; exact hIa _ _ _ (hIa _ _ _ h0)
  have hb1 : Below w0.heap.size w0 W1 := by
    rw [← hW1]; exact hb0.trans ((((Below.refl _ w).alloc (Nat.le_refl _) _).alloc (by simp) _).mono hb0.size)
  have hs1 : W1.heap.size = w.heap.size + 2 := by rw [← hW1]; simp
  refine ⟨w.heap.size + 1, [{ target := .collected w.heap.size, args := #[] }], W1, { target := .fn (.func gf) lb, args := #[.func (.yield (w.heap.size + 1)) #[] #[]] }, W1, gf,
    #[.func (.yield (w.heap.size + 1)) #[] #[]] ++ lb, W1, ?_, ?_, ?_, ?_, fun _ => h1, ?_⟩
  · rw [← hW1, hrec]; exact run_enterLoop_outer _ _ _ _ _
  · simp only [resolve, hg]
    simp [go_sem]
  · intro f' hf'; simp [Target.leads] at hf'; subst hf'; exact hFg
  · simp [invoke, go_sem, eg]
  · refine (hseq (w.heap.size + 1)
      (fun i W => I i W ∧ w.heap.size + 2 ≤ W.heap.size ∧ W.heap[w.heap.size + 1]? = some (.loop (rec .ready none)) ∧ W.heap[w.heap.size]? = some (.deferred (some [])))
      (fun i W => Ix i W ∧ W.heap[w.heap.size + 1]? = some (.loop (rec .done (some .ret))) ∧ W.heap[w.heap.size]? = some (.deferred (some [])))
      W1 hb1
      (fun i A B hs hst => by
        have e1 := hSt _ _ _ _ _ (by omega) hs.2.2.1 rfl hst
        exact ⟨hIs i _ A B (by omega) hs.1 hst, (by have := (Array.getElem?_eq_some_iff.1 e1).1; omega), e1, hSt _ _ _ _ _ (by omega) hs.2.2.2 rfl hst⟩)
      ?_ ⟨hI1, by omega, hL1, hK1⟩).mono ?_
    · rintro i x W hx ⟨hi, hsz, hl, hk⟩
      have hlt : w.heap.size + 1 < W.heap.size := by omega
      have hy := run_yield (P := P) (args := encs x) hl (by rw [hrec]; exact hps x)
      rw [hrec] at hy
      refine ⟨fn, _, assign, body, hy, roundIn_of_wpIn hfn (hassign _ x W _ ⟨_, run_beginRound hl (by rw [hrec]), ?_⟩)⟩
      have hl2 : (W.putObj (w.heap.size + 1) (.loop { rec .ready none with state := .busy })).heap[w.heap.size + 1]? = some (.loop { rec .ready none with state := .busy }) := World.putObj_heap_same hlt
      have hk2 : (W.putObj (w.heap.size + 1) (.loop { rec .ready none with state := .busy })).heap[w.heap.size]? = some (.deferred (some [])) := (World.putObj_heap_other (by omega)).trans hk
      have hs2 : (W.putObj (w.heap.size + 1) (.loop { rec .ready none with state := .busy })).heap.size = W.heap.size := by simp
      refine wpIn_mono (hbody _ i x _ hx (by simpa using hsz) (hIp _ _ _ _ _ (by omega) hl rfl hi)) ?_
      have fin : ∀ (jump : Option Code) (W3 : World), KeepsFrom w.heap.size (W.putObj (w.heap.size + 1) (.loop { rec .ready none with state := .busy })) W3 →
          (Instr.endRound (w.heap.size + 1) jump).run P W3 = .ok (.bool jump.isNone) (W3.putObj (w.heap.size + 1) (.loop (rec (if jump.isNone then .ready else .done) jump))) ∧
          W3.heap[w.heap.size + 1]? = some (.loop { rec .ready none with state := .busy }) ∧
          (W3.putObj (w.heap.size + 1) (.loop (rec (if jump.isNone then .ready else .done) jump))).heap[w.heap.size + 1]? = some (.loop (rec (if jump.isNone then .ready else .done) jump)) ∧
          (W3.putObj (w.heap.size + 1) (.loop (rec (if jump.isNone then .ready else .done) jump))).heap[w.heap.size]? = some (.deferred (some [])) := fun jump W3 hk3 => by
        have hl3 := hk3.same _ _ (by omega) hl2 rfl
        have := run_endRound (P := P) jump hl3
        rw [hrec] at this ⊢
        exact ⟨this, by rw [hrec] at hl3; exact hl3, World.putObj_heap_same (Array.getElem?_eq_some_iff.1 hl3).1, (World.putObj_heap_other (by omega)).trans (hk3.same _ _ (by omega) hk2 rfl)⟩
      rintro e a3 W3 hp
      cases e with
      | normal =>
        obtain ⟨hk3, hbd3, hi3⟩ := hp
        obtain ⟨hr, hl3, hl4, hk4⟩ := fin none W3 hk3
        refine ⟨_, _, hr, .inl ⟨rfl, ⟨hIp _ _ _ _ _ (by omega) hl3 rfl hi3, ?_, hl4, hk4⟩, ?_⟩⟩
        · have := hk3.size; simp at this ⊢; omega
        · exact hKp _ _ _ _ _ hl hbd3
      | ret =>
        obtain ⟨hk3, hi3⟩ := hp
        obtain ⟨hr, hl3, hl4, hk4⟩ := fin (some .ret) W3 hk3
        exact ⟨_, _, hr, .inr ⟨rfl, hXp _ _ _ _ _ (by omega) hl3 rfl hi3, hl4, hk4⟩⟩
      | exit id => exact hp.elim
      | goto t => exact hp.elim
      | panic ch => exact hp.elim
      | outgrown => exact hp.elim
    · rintro e W2 ⟨⟨v, rfl⟩, (⟨hi, _, hl, hk⟩ | ⟨i, hlt, hi, hl, hk⟩)⟩
      · exact ⟨none, _, by have := run_endLoop (P := P) hl (by rw [hrec]; simp); rw [hrec] at this; exact this, hdone _ _ (Nat.le_refl _) (hIp _ _ _ _ _ (by omega) hl rfl hi) ((World.putObj_heap_other (by omega)).trans hk)⟩
      · exact ⟨some .ret, _, by have := run_endLoop (P := P) hl (by rw [hrec]; simp); rw [hrec] at this; exact this, hstop _ _ _ (Nat.le_refl _) hlt (hXp _ _ _ _ _ (by omega) hl rfl hi) ((World.putObj_heap_other (by omega)).trans hk)⟩
end Go.Proofs.YthjbmloemmggaaaGreatDoor

namespace Go.Proofs.YthjbmloemmggaaaGreatDoor
open Go.RowKit Go.Stop
set_option maxRecDepth 100000
set_option linter.unusedVariables false
set_option linter.unusedSimpArgs false
theorem rec166 (w : World) : CallsD Tryz.prog 140 #[] .returning w fun e u' w' => e = .returned (.tuple #[]) ∧ u' = .returning ∧ w' = w := by
  refine callsD_of_wpS Tryz.func140 rfl fun c₀ cs hu => ?_
  apply wpS_region
  cases c₀
  simp_all [wpOpsS, go_sem, recoverD, Tryz.ntmps140, bodyPostS, results, Tryz.results140]
theorem rec149 (w : World) : CallsD Tryz.prog 126 #[] .returning w fun e u' w' => e = .returned (.tuple #[]) ∧ u' = .returning ∧ w' = w := by
  refine callsD_of_wpS Tryz.func126 rfl fun c₀ cs hu => ?_
  apply wpS_region
  cases c₀
  simp_all [wpOpsS, go_sem, recoverD, Tryz.ntmps126, bodyPostS, results, Tryz.results126]
theorem has88_195 (v : Value) (xT : TypeId) (w : World) : (Instr.typeAssert (.iface 103 v) xT 222 true).run Tryz.prog w = .ok (.tuple #[.iface 103 v, .bool true]) w := run_typeAssert_hasB Tryz.underlying222 (by kernel_rfl) v xT w
theorem lacks41_195 (v : Value) (xT : TypeId) (w : World) : (Instr.typeAssert (.iface 27 v) xT 222 true).run Tryz.prog w = .ok (.tuple #[.nilIface, .bool false]) w := run_typeAssert_lacksB Tryz.underlying222 (by kernel_rfl) (by kernel_rfl) v xT w
theorem lacks41_197 (v : Value) (xT : TypeId) (w : World) : (Instr.typeAssert (.iface 27 v) xT 224 true).run Tryz.prog w = .ok (.tuple #[.nilIface, .bool false]) w := run_typeAssert_lacksB Tryz.underlying224 (by kernel_rfl) (by kernel_rfl) v xT w
theorem lacks41_181 (v : Value) (xT : TypeId) (w : World) : (Instr.typeAssert (.iface 27 v) xT 194 true).run Tryz.prog w = .ok (.tuple #[.nilIface, .bool false]) w := run_typeAssert_lacksB Tryz.underlying194 (by kernel_rfl) (by kernel_rfl) v xT w
theorem unwrap88 (p : Option Addr) (w : World) : (Go.method 361 103 (.pointer p) "Unwrap").run Tryz.prog w = .ok (164, .pointer p) w := by kernel_rfl
set_option maxHeartbeats 2000000 in
theorem wrap_fail (p : Nat) (l : ByteArray) (a : Int) (k : TypeId) (x : Value) (w : World) (h : At w p #[.string l, .int .i64 a, .iface k x]) :
    Calls Tryz.prog 132 #[.iface 103 (.pointer (some ⟨p, 0, none⟩))] w fun e w' => e = .returned (.tuple #[.iface k x, .slice none 0 0]) ∧ w' = w := by
  have c2 := (h.2 2 _ rfl).1
  have f1 := has88_195
  have f2 := unwrap88
  go_enter_defers Tryz.func132, Tryz.ntmps132
  go_wp2
  refine leaves_cons (f := 140) (args := #[]) (by simp) (by simp [go_sem]) ?_
  refine (rec166 _).mono ?_
  rintro e u' w'' ⟨rfl, rfl, rfl⟩
  simp [Leaves, settle, results, Tryz.results132, go_sem]
set_option maxHeartbeats 2000000 in
theorem wrap_code (c : Int) (w : World) :
    Calls Tryz.prog 132 #[.iface 27 (.int .i64 c)] w fun e w' => e = .returned (.tuple #[.nilIface, .slice none 0 0]) ∧ w' = w := by
  have f1 := lacks41_195
  have f2 := lacks41_197
  go_enter_defers Tryz.func132, Tryz.ntmps132
  go_wp2
  refine leaves_cons (f := 140) (args := #[]) (by simp) (by simp [go_sem]) ?_
  refine (rec166 _).mono ?_
  rintro e u' w'' ⟨rfl, rfl, rfl⟩
  simp [Leaves, settle, results, Tryz.results132, go_sem]
end Go.Proofs.YthjbmloemmggaaaGreatDoor

namespace Go.Proofs.YthjbmloemmggaaaGreatDoor
open Go.RowKit Go.Stop
set_option maxRecDepth 100000
set_option linter.unusedVariables false
set_option linter.unusedSimpArgs false
theorem not41_88 (v : Value) (xT : TypeId) (w : World) : (Instr.typeAssert (.iface 27 v) xT 103 true).run Tryz.prog w = .ok (.tuple #[.pointer none, .bool false]) w := by kernel_rfl
theorem is88_88 (v : Value) (xT : TypeId) (w : World) : (Instr.typeAssert (.iface 103 v) xT 103 true).run Tryz.prog w = .ok (.tuple #[v, .bool true]) w := by kernel_rfl
set_option maxHeartbeats 2000000 in
theorem own124_fail (p : Nat) (w : World) (hE : Ety w) :
    Calls Tryz.prog 111 #[.iface 103 (.pointer (some ⟨p, 0, none⟩))] w fun e w' => e = .returned (.tuple #[.pointer (some ⟨p, 0, none⟩), .bool true]) ∧ Below w.heap.size w w' := by
  have f1 := is88_88
  go_enter_defers Tryz.func111, Tryz.ntmps111
  go_wp2_with fail
  refine (as_fail ⟨w.heap.size, 0, none⟩ ⟨p, 0, none⟩ _ _ (hE.later (bel1 _ _)) ((At.box w #[.pointer none] 103).2 0 _ rfl).1 ((At.box w #[.pointer none] 103).2 0 _ rfl).2).mono ?_
  rintro e w1 ⟨rfl, hw⟩
  have hc : w1.cell? ⟨w.heap.size, 0, none⟩ = some (.pointer (some ⟨p, 0, none⟩)) := by
    rw [hw]
    refine World.cell?_setCell_same' _ _ _ ?_
    rw [World.cell?_alloc_lt _ _ ⟨w.heap.size, 0, none⟩ (by simp; omega), World.cell?_alloc_lt _ _ ⟨w.heap.size, 0, none⟩ (by simp; omega), World.cell?_alloc_lt _ _ ⟨w.heap.size, 0, none⟩ (by simp; omega), World.cell?_alloc_lt _ _ ⟨w.heap.size, 0, none⟩ (by simp), ((At.box w #[.pointer none] 103).2 0 _ rfl).1]
    rfl
  have hb : Below w.heap.size w w1 := by
    rw [hw]
    exact (((((bel1 w _).alloc (by simp) _).alloc (by simp; omega) _).alloc (by simp; omega) _).alloc (by simp; omega) _).setCell (p := ⟨w.heap.size, 0, none⟩) (Nat.le_refl _) _
  clear hw
  go_wp2
  refine leaves_cons (f := 126) (args := #[]) (by simp) (by simp [go_sem]) ?_
  refine (rec149 _).mono ?_
  rintro e u' w'' ⟨rfl, rfl, rfl⟩
  simp only [Leaves, settle]
  exact ⟨.tuple #[.pointer (some ⟨p, 0, none⟩), .bool true], by simp [results, Tryz.results111, go_sem], rfl, hb⟩
set_option maxHeartbeats 2000000 in
theorem own124_code (c : Int) (w : World) :
    Calls Tryz.prog 111 #[.iface 27 (.int .i64 c)] w fun e w' => e = .returned (.tuple #[.pointer none, .bool false]) ∧ Below w.heap.size w w' := by
  have f1 := lacks41_181
  have f2 := not41_88
  go_enter_defers Tryz.func111, Tryz.ntmps111
  go_wp2
  refine leaves_cons (f := 126) (args := #[]) (by simp) (by simp [go_sem]) ?_
  refine (rec149 _).mono ?_
  rintro e u' w'' ⟨rfl, rfl, rfl⟩
  simp only [Leaves, settle]
  exact ⟨.tuple #[.pointer none, .bool false], by simp [results, Tryz.results111, go_sem], rfl, Below.refl _ _⟩
end Go.Proofs.YthjbmloemmggaaaGreatDoor

namespace Go.Proofs.YthjbmloemmggaaaGreatDoor
open Go.RowKit Go.Shelf
attribute [local go_sem] Oper.semAt_some
set_option maxRecDepth 100000
set_option linter.unusedVariables false
set_option linter.unusedSimpArgs false
theorem back_any (a : Option Addr) (len cap : Nat) (w : World) :
    Calls Tryz.prog 131 #[.slice a len cap] w fun e w' => e = .returned (.func (.func 139) #[] #[.pointer (some ⟨w.heap.size, 0, none⟩)]) ∧ w' = w.alloc (.cells #[.slice a len cap] 187) := by
  go_enter Tryz.func131, Tryz.ntmps131
  go_wp2
  go_ret
  exact ⟨rfl, rfl⟩
set_option maxHeartbeats 2000000 in
theorem back_it (n : Nat) (hn : 1 ≤ n) (Bs b off cap : Nat) (k : TypeId) (x : Value) (w : World) (h1 : Bs < w.heap.size) (h2 : b < w.heap.size) (hBs : w.cell? ⟨Bs, 0, none⟩ = some (.slice (some ⟨b, off, none⟩) 1 cap)) (hc : w.cell? ⟨b, off, none⟩ = some (.iface k x)) :
    ItRuns Fence.wide n Tryz.prog 139 #[.pointer (some ⟨Bs, 0, none⟩)] (fun x : Value => #[.int .i64 0, x]) (fun _ _ => True) (fun _ A B => B = A) [.iface k x] w := by
  intro l J Jx W hW hJ hY h0
  have cB := (hW.cell (p := ⟨Bs, 0, none⟩) h1).trans hBs
  have cx := (hW.cell (p := ⟨b, off, none⟩) h2).trans hc
  refine callsIn_of_wp Tryz.func139 rfl trivial ?_ rfl
  simp only [Tryz.ntmps139, List.size_toArray, List.length_cons, List.length_nil, Nat.reduceAdd, Nat.reduceSub, Array.replicate_succ, Array.replicate_zero, List.push_toArray, List.append_toArray, List.nil_append, List.cons_append]
  obtain ⟨f1, t1, a1, b1, hy1, hR1⟩ := hY 0 (.iface k x) W rfl h0
  dsimp only at hy1
  gi_wp2
  refine wpIn_loop_rounds 2 ?_
  rw [roundsIn_succ]
  gi_wp2
  refine hR1.mono ?_
  rintro e W1 (⟨rfl, hJ1, _⟩ | ⟨rfl, hx1⟩)
  · gi_wp2
    rw [roundsIn_succ]
    gi_wp2
    go_end0
    exact ⟨⟨_, rfl⟩, .inl hJ1⟩
  · gi_wp2
    refine bodyPost_ret (results_none rfl _ _ _) rfl ?_
    exact ⟨⟨_, rfl⟩, .inr ⟨0, by simp, hx1⟩⟩
set_option maxHeartbeats 2000000 in
theorem back_it0 (n : Nat) (hn : 1 ≤ n) (Bs b off cap : Nat) (w : World) (h1 : Bs < w.heap.size) (h2 : b < w.heap.size) (hBs : w.cell? ⟨Bs, 0, none⟩ = some (.slice (some ⟨b, off, none⟩) 1 cap)) (hc : w.cell? ⟨b, off, none⟩ = some (.nilIface)) :
    ItRuns Fence.wide n Tryz.prog 139 #[.pointer (some ⟨Bs, 0, none⟩)] (fun x : Value => #[.int .i64 0, x]) (fun _ _ => True) (fun _ A B => B = A) [.nilIface] w := by
  intro l J Jx W hW hJ hY h0
  have cB := (hW.cell (p := ⟨Bs, 0, none⟩) h1).trans hBs
  have cx := (hW.cell (p := ⟨b, off, none⟩) h2).trans hc
  refine callsIn_of_wp Tryz.func139 rfl trivial ?_ rfl
  simp only [Tryz.ntmps139, List.size_toArray, List.length_cons, List.length_nil, Nat.reduceAdd, Nat.reduceSub, Array.replicate_succ, Array.replicate_zero, List.push_toArray, List.append_toArray, List.nil_append, List.cons_append]
  obtain ⟨f1, t1, a1, b1, hy1, hR1⟩ := hY 0 (.nilIface) W rfl h0
  dsimp only at hy1
  gi_wp2
  refine wpIn_loop_rounds 2 ?_
  rw [roundsIn_succ]
  gi_wp2
  refine hR1.mono ?_
  rintro e W1 (⟨rfl, hJ1, _⟩ | ⟨rfl, hx1⟩)
  · gi_wp2
    rw [roundsIn_succ]
    gi_wp2
    go_end0
    exact ⟨⟨_, rfl⟩, .inl hJ1⟩
  · gi_wp2
    refine bodyPost_ret (results_none rfl _ _ _) rfl ?_
    exact ⟨⟨_, rfl⟩, .inr ⟨0, by simp, hx1⟩⟩
end Go.Proofs.YthjbmloemmggaaaGreatDoor

namespace Go.Proofs.YthjbmloemmggaaaGreatDoor
open Go.RowKit
theorem wp_round {P : Program} {o : Oper} {a : Act} {w : World} {K : Act → World → Prop} {Q : Exit → Act → World → Prop} (l n : Nat) (hd : ∀ c, o.op ≠ .defer c) (h : o.wp P a w K Q) : o.wpIn (Fence.wide.inRound l) n P a w K Q := by
  refine ⟨fun _ _ => trivial, ?_⟩
  rw [Oper.semAt_eq _ _ _ hd]
  unfold Oper.wp at h
  generalize (execOp a.eval o).run P w = r at h
  cases r with
  | halt x w' => cases x <;> first | exact h | exact h.elim
  | ok x w' =>
    cases x with
    | value v => exact h
    | skip => exact h
    | defer d => exact h
    | enter f args => exact ⟨fun e => (by cases e), CallsIn.inRound l (callsIn_wide.2 h)⟩
    | row r args =>
      refine ⟨fun e => (by cases e), fun c cs _ => ?_⟩
      obtain ⟨v, w'', hr, hs⟩ := h c cs
      exact ⟨v, w'', hr, stepsIn_wide.2 hs⟩
    | _ => exact h.elim
theorem any_round {P : Program} {md : Region.Mode} {ops : Array Oper} {Q : Exit → Act → World → Prop} (l n : Nat) (hQ : ¬ LetsOut Q) (hd : ops.all (fun o => match o.op with | .defer _ => false | _ => true) = true) :
    ∀ (fuel : Nat) (ls : Array Bool) (a : Act) (w : World), wpAny P md ops Q fuel ls a w → wpAnyIn (Fence.wide.inRound l) n P md ops Q fuel ls a w := by
  intro fuel
  induction fuel with
  | zero => exact fun ls a w h => h
  | succ fuel ih =>
    intro ls a w h
    refine ⟨h.1, fun i hi => ?_⟩
    have h2 := wpOp_mono (fun a w => ih _ a w) (h.2 i hi)
    unfold wpOp at h2
    unfold wpOpIn
    cases ho : ops[i]? with
    | none => simp only [ho] at h2 ⊢; exact h2
    | some o =>
      simp only [ho] at h2 ⊢
      have hdo : ∀ c, o.op ≠ .defer c := fun c e => by
        have := Array.all_eq_true_iff_forall_mem.1 hd o (Array.mem_of_getElem? ho)
        rw [e] at this
        cases this
      split
      · rename_i hw
        rw [if_pos hw] at h2
        rcases h2 with h2 | h2
        · exact wp_round l n hdo h2
        · exact (hQ h2.2).elim
      · rename_i hw
        rw [if_neg hw] at h2
        exact ⟨fun _ _ => trivial, h2⟩
theorem wpIn_region_round {P : Program} {ops : Array Oper} {Q : Exit → Act → World → Prop} {id l n : Nat} {a : Act} {w : World} (hm : P.follows .mixedOrders = true) (hQ : ¬ LetsOut Q) (hd : ops.all (fun o => match o.op with | .defer _ => false | _ => true) = true)
    (h : wpAny P .any ops Q ops.size (Array.replicate ops.size false) a { w with drawn := w.drawn + 1 }) : (Code.region id ops true).wpIn (Fence.wide.inRound l) n P Q a w :=
  wpIn_region_any hm (any_round l n hQ hd _ _ _ _ h)
end Go.Proofs.YthjbmloemmggaaaGreatDoor

namespace Go.Proofs.YthjbmloemmggaaaGreatDoor
open Go.RowKit Go.Shelf
attribute [local go_sem] Oper.semAt_some
set_option maxRecDepth 100000
set_option linter.unusedVariables false
set_option linter.unusedSimpArgs false
theorem At.put {W : World} {b l : Nat} {vs : Array Value} {o : Obj} (h : At W b vs) (o' : Obj) (hl : W.heap[l]? = some o) (ho : o.isCells = false) : At (W.putObj l o') b vs := by
  refine ⟨by simpa using h.1, fun i v hv => ?_⟩
  have hr : ∀ r, some l = some r → ∃ o : Obj, W.heap[r]? = some o ∧ o.isCells = false := fun r e => by cases e; exact ⟨o, hl, ho⟩
  exact ⟨cell_kept (h.2 i v hv).1 (grownBy_putObj' W l o') hr, (frozen_kept (h.2 i v hv).1 (grownBy_putObj' W l o') hr).trans (h.2 i v hv).2⟩
theorem below_put {N l : Nat} {w W : World} {o : Obj} (h : Below N w W) (o' : Obj) (hl : W.heap[l]? = some o) (hN : N ≤ l) : Below N w (W.putObj l o') :=
  h.trans ((Below.refl N W).grown (grownBy_putObj' W l o') (by have := (Array.getElem?_eq_some_iff.1 hl).1; omega) (fun k e => by cases e; exact hN))
theorem Tryz.info58 : (Tryz.prog.info? 58).map (fun i => (i.zero, i.size, i.bytes)) = some (some .nilIface, 1, 16) := by kernel_rfl
theorem one_news {X : World} {g : Nat} {v : Value} (h0 : X.cell? ⟨g, 0, none⟩ = some v) : ∀ j u, [v][j]? = some u → X.cell? ((⟨g, 0, none⟩ : Addr).add j) = some u := by
  intro j u h
  match j, h with
  | 0, h => simp only [List.getElem?_cons_zero, Option.some.injEq] at h; subst h; exact h0
  | j + 1, h => simp at h
theorem bs174 (k : TypeId) (x : Value) (w : World) : (Instr.buildSlice 187 1 #[(0, .iface k x)]).run Tryz.prog w = .ok (.slice (some ⟨w.heap.size, 0, none⟩) 1 1) (w.alloc (.cells #[.iface k x] 58)) := by
  obtain ⟨i0, hi, hz0, hz1, hz2⟩ := info_parts Tryz.info58
  refine run_buildSlice w 187 58 1 _ _ i0 _ Tryz.underlying187 hi hz0 (by rw [hz1]; decide) (by rw [hz1]; decide) ?_
  rw [hz1]; kernel_rfl
theorem own_cells {w : World} {base : Nat} {e : TypeId} {size n j : Nat} {v : Value} {xs : List Value} {ob : Obj} (h : w.ownsRow base e size v n xs) (ej : v.ownBlock = some j) (hj : w.heap[j]? = some ob) : ob.isCells = true := by
  rcases h.2 with ⟨rfl, _⟩ | ⟨g, cap, cur, rfl, _, hg, _⟩
  · cases ej
  · obtain rfl : g = j := by simpa [Value.ownBlock] using ej
    rw [hg] at hj
    cases hj
    rfl
set_option maxHeartbeats 4000000 in
theorem add_n (N P b : Nat) (g mk : Int) (mp : Value) (la : Option Addr) (lc : Nat) (w : World) (hN : N ≤ P) (hA : At w P #[.slice la 0 lc, .int .i64 g, mp, .int .i64 mk]) (hown : w.ownsRow (P + 1) 58 1 (.slice la 0 lc) 0 []) (hbP : P ≠ b) (hx : At w b #[.nilIface]) (hg0 : 0 ≤ g) (hg1 : g < 1000) :
    Calls Tryz.prog 124 #[.pointer (some ⟨P, 0, none⟩), .slice (some ⟨b, 0, none⟩) 1 1] w fun e w' => e = .returned (.tuple #[]) ∧ (At w' P #[.slice la 0 lc, .int .i64 (g + 1), mp, .int .i64 mk] ∧ w'.ownsRow (P + 1) 58 1 (.slice la 0 lc) 0 []) ∧ Below N w w' := by
  have hla : ∀ q, (Value.slice la 0 lc).ownBlock = some q → q < w.heap.size := fun q e => (hown.lt q e).2
  have c1 := (hA.2 1 _ rfl).1
  have z1 := (hA.2 1 _ rfl).2
  have hP := hA.1
  refine (callsIn_wide (n := 5)).1 ?_
  refine callsIn_of_wp_marks Tryz.func124 rfl trivial ?_ rfl
  simp only [Tryz.ntmps124, List.size_toArray, List.length_cons, List.length_nil, Nat.reduceAdd, Nat.reduceSub, Array.replicate_succ, Array.replicate_zero, List.push_toArray, List.append_toArray, List.nil_append, List.cons_append]
  gi_wp2_with (refine ⟨trivial, ?_⟩; gi_at_call 131; refine (callsIn_wide.2 (back_any _ _ _ _)).mono ?_; rintro e w' ⟨rfl, rfl⟩)
  have hs0 : (w.setCell ⟨P, 1, none⟩ (.int .i64 (g + 1))).heap.size = w.heap.size := by simp
  have hA1 : At (w.setCell ⟨P, 1, none⟩ (.int .i64 (g + 1))) P #[.slice la 0 lc, .int .i64 (g + 1), mp, .int .i64 mk] := hA.set 1 _
  have hr1 := own_setCell hown P 1 (.int .i64 (g + 1)) (Nat.lt_succ_self P)
  have hb1 : Below N w (w.setCell ⟨P, 1, none⟩ (.int .i64 (g + 1))) := (Below.refl N w).setCell (p := ⟨P, 1, none⟩) hN _
  have hx1 := hx.keep hbP 1 (.int .i64 (g + 1))
  have hB2 := At.box (w.setCell ⟨P, 1, none⟩ (.int .i64 (g + 1))) #[.pointer (some ⟨P, 0, none⟩)] 200
  rw [hs0] at hB2
  generalize hwa : w.setCell ⟨P, 1, none⟩ (.int .i64 (g + 1)) = wa at *
  have k1 := bel1 wa (.cells #[.pointer (some ⟨P, 0, none⟩)] 200)
  have k2 := bel1 (wa.alloc (.cells #[.pointer (some ⟨P, 0, none⟩)] 200)) (.cells #[.slice (some ⟨b, 0, none⟩) 1 1] 187)
  have hBs := At.box2 wa (.cells #[.pointer (some ⟨P, 0, none⟩)] 200) #[.slice (some ⟨b, 0, none⟩) 1 1] 187
  have k := bt k1 k2
  have hB2' := hB2.later k2
  have hsz : ((wa.alloc (.cells #[.pointer (some ⟨P, 0, none⟩)] 200)).alloc (.cells #[.slice (some ⟨b, 0, none⟩) 1 1] 187)).heap.size = w.heap.size + 2 := by simp; omega
  rw [hs0] at hBs
  generalize hw' : (wa.alloc (.cells #[.pointer (some ⟨P, 0, none⟩)] 200)).alloc (.cells #[.slice (some ⟨b, 0, none⟩) 1 1] 187) = w' at *
  have hA2 := hA1.later k
  have hx2 := hx1.later k
  have hr2 := own_later hr1 k
  have hbW : Below N w w' := hb1.trans (k.mono (by omega))
  clear hw' k k1 k2 hA1 hx1 hr1 hb1 hB2 hA hown hx c1 z1
  clear hwa hs0
  obtain ⟨W0, hW0⟩ : ∃ x, x = w' := ⟨w', rfl⟩
  subst hW0
  refine wpIn_range_it (α := Value) rfl (by omega) (gf := 139) (lb := #[.pointer (some ⟨w.heap.size + 1, 0, none⟩)]) rfl trivial (enters_of Tryz.func139 (by kernel_rfl) rfl)
    (back_it0 (5 - 1) (by omega) (w.heap.size + 1) b 0 1 W0 (by omega) hx2.1 (hBs.2 0 _ rfl).1 (hx2.2 0 _ rfl).1) (Below.refl _ _) (fun _ => rfl)
    (fun i W => (i = 0 ∧ (At W P #[.slice la 0 lc, .int .i64 (g + 1), mp, .int .i64 mk] ∧ W.ownsRow (P + 1) 58 1 (.slice la 0 lc) 0 []) ∧ At W w.heap.size #[.pointer (some ⟨P, 0, none⟩)] ∧ Below N w W) ∨ (i = 1 ∧ (At W P #[.slice la 0 lc, .int .i64 (g + 1), mp, .int .i64 mk] ∧ W.ownsRow (P + 1) 58 1 (.slice la 0 lc) 0 []) ∧ Below N w W)) (fun _ _ => False)
    (.inl ⟨rfl, ⟨hA2, hr2⟩, hB2', hbW⟩) (fun i s A B _ h e => by subst e; exact h) (fun s k A B o _ h _ e => by subst e; exact h) ?al ?pu (fun _ _ _ _ _ _ _ _ h => h) (Bd := fun _ _ => True) (fun _ _ _ _ _ _ _ => trivial)
    (fun x => { tmps := #[.pointer (some ⟨P, 0, none⟩), .slice (some ⟨b, 0, none⟩) 1 1, .pointer (some ⟨w.heap.size, 0, none⟩), undef, undef, x, .pointer (some ⟨P, 0, none⟩), .pointer (some ⟨P, 0, none⟩), .pointer (some ⟨P, 1, none⟩), .int .i64 g, .slice (some ⟨b, 0, none⟩) 1 1, .int .i64 1, .int .i64 (g + 1), .pointer (some ⟨P, 0, none⟩), .pointer (some ⟨P, 1, none⟩), .slice (some ⟨b, 0, none⟩) 1 1, .func (.func 139) #[] #[.pointer (some ⟨w.heap.size + 1, 0, none⟩)], .int .i64 0, x, undef, undef, undef, undef, undef, undef, undef, undef, undef, undef, undef, undef], defers := [] }) ?assign ?body ?done ?stop
  case al =>
    rintro i A o (⟨rfl, ⟨h1, h2⟩, h3, h4⟩ | ⟨rfl, ⟨h1, h2⟩, h4⟩)
    · exact .inl ⟨rfl, ⟨h1.later (bel1 _ _), own_later h2 (bel1 _ _)⟩, h3.later (bel1 _ _), h4.trans ((bel1 _ _).mono (by have := h3.1; omega))⟩
    · exact .inr ⟨rfl, ⟨h1.later (bel1 _ _), own_later h2 (bel1 _ _)⟩, h4.trans ((bel1 _ _).mono (by have := h1.1; omega))⟩
  case pu =>
    rintro i A l o o' hl ho hc (⟨rfl, ⟨h1, h2⟩, h3, h4⟩ | ⟨rfl, ⟨h1, h2⟩, h4⟩)
    · exact .inl ⟨rfl, ⟨h1.put o' ho hc, ownsRow_putObj h2 o' ho hc⟩, h3.put o' ho hc, below_put h4 o' ho (by omega)⟩
    · exact .inr ⟨rfl, ⟨h1.put o' ho hc, ownsRow_putObj h2 o' ho hc⟩, below_put h4 o' ho (by omega)⟩
  case assign =>
    intro l x W K hK
    gi_wp2
    exact hK
  case body =>
    rintro l i y W hy hsw (⟨rfl, ⟨h1, h2⟩, h3, h4⟩ | ⟨rfl, _⟩)
    · obtain rfl : .nilIface = y := by simpa using hy
      have cp := (h3.2 0 _ rfl).1
      have cl := (h1.2 0 _ rfl).1
      have zl := (h1.2 0 _ rfl).2
      gi_wp2
      exact ⟨KeepsFrom.refl _ _, trivial, .inr ⟨rfl, ⟨h1, h2⟩, h4⟩⟩
    · simp at hy
  case done =>
    rintro D W hD (⟨h0, _⟩ | ⟨_, ⟨h1, h2⟩, h4⟩) hK
    · simp at h0
    · gi_wp2
      refine ⟨by simp, .inl ⟨_, _, rfl, run_takeDeferred hK, ?_⟩⟩
      exact ⟨_, results_none rfl _ _ _, rfl, ⟨h1.put _ hK rfl, ownsRow_putObj h2 _ hK rfl⟩, below_put h4 _ hK (by omega)⟩
  case stop =>
    rintro D i W _ _ h _
    exact h.elim
set_option maxHeartbeats 4000000 in
theorem add_s (N P b : Nat) (g mk : Int) (mp : Value) (la : Option Addr) (lc : Nat) (k : TypeId) (x : Value) (w : World) (hN : N ≤ P) (hA : At w P #[.slice la 0 lc, .int .i64 g, mp, .int .i64 mk]) (hown : w.ownsRow (P + 1) 58 1 (.slice la 0 lc) 0 []) (hbP : P ≠ b) (hx : At w b #[.iface k x]) (hg0 : 0 ≤ g) (hg1 : g < 1000) :
    Calls Tryz.prog 124 #[.pointer (some ⟨P, 0, none⟩), .slice (some ⟨b, 0, none⟩) 1 1] w fun e w' => e = .returned (.tuple #[]) ∧ (∃ gg cap : Nat, At w' P #[.slice (some ⟨gg, 0, none⟩) 1 cap, .int .i64 (g + 1), mp, .int .i64 mk] ∧ w'.ownsRow (P + 1) 58 1 (.slice (some ⟨gg, 0, none⟩) 1 cap) 1 [.iface k x]) ∧ Below N w w' := by
  have hla : ∀ q, (Value.slice la 0 lc).ownBlock = some q → q < w.heap.size := fun q e => (hown.lt q e).2
  have c1 := (hA.2 1 _ rfl).1
  have z1 := (hA.2 1 _ rfl).2
  have hP := hA.1
  refine (callsIn_wide (n := 5)).1 ?_
  refine callsIn_of_wp_marks Tryz.func124 rfl trivial ?_ rfl
  simp only [Tryz.ntmps124, List.size_toArray, List.length_cons, List.length_nil, Nat.reduceAdd, Nat.reduceSub, Array.replicate_succ, Array.replicate_zero, List.push_toArray, List.append_toArray, List.nil_append, List.cons_append]
  gi_wp2_with (refine ⟨trivial, ?_⟩; gi_at_call 131; refine (callsIn_wide.2 (back_any _ _ _ _)).mono ?_; rintro e w' ⟨rfl, rfl⟩)
  have hs0 : (w.setCell ⟨P, 1, none⟩ (.int .i64 (g + 1))).heap.size = w.heap.size := by simp
  have hA1 : At (w.setCell ⟨P, 1, none⟩ (.int .i64 (g + 1))) P #[.slice la 0 lc, .int .i64 (g + 1), mp, .int .i64 mk] := hA.set 1 _
  have hr1 := own_setCell hown P 1 (.int .i64 (g + 1)) (Nat.lt_succ_self P)
  have hb1 : Below N w (w.setCell ⟨P, 1, none⟩ (.int .i64 (g + 1))) := (Below.refl N w).setCell (p := ⟨P, 1, none⟩) hN _
  have hx1 := hx.keep hbP 1 (.int .i64 (g + 1))
  have hB2 := At.box (w.setCell ⟨P, 1, none⟩ (.int .i64 (g + 1))) #[.pointer (some ⟨P, 0, none⟩)] 200
  rw [hs0] at hB2
  generalize hwa : w.setCell ⟨P, 1, none⟩ (.int .i64 (g + 1)) = wa at *
  have k1 := bel1 wa (.cells #[.pointer (some ⟨P, 0, none⟩)] 200)
  have k2 := bel1 (wa.alloc (.cells #[.pointer (some ⟨P, 0, none⟩)] 200)) (.cells #[.slice (some ⟨b, 0, none⟩) 1 1] 187)
  have hBs := At.box2 wa (.cells #[.pointer (some ⟨P, 0, none⟩)] 200) #[.slice (some ⟨b, 0, none⟩) 1 1] 187
  have k := bt k1 k2
  have hB2' := hB2.later k2
  have hsz : ((wa.alloc (.cells #[.pointer (some ⟨P, 0, none⟩)] 200)).alloc (.cells #[.slice (some ⟨b, 0, none⟩) 1 1] 187)).heap.size = w.heap.size + 2 := by simp; omega
  rw [hs0] at hBs
  generalize hw' : (wa.alloc (.cells #[.pointer (some ⟨P, 0, none⟩)] 200)).alloc (.cells #[.slice (some ⟨b, 0, none⟩) 1 1] 187) = w' at *
  have hA2 := hA1.later k
  have hx2 := hx1.later k
  have hr2 := own_later hr1 k
  have hbW : Below N w w' := hb1.trans (k.mono (by omega))
  clear hw' k k1 k2 hA1 hx1 hr1 hb1 hB2 hA hown hx c1 z1
  clear hwa hs0
  obtain ⟨W0, hW0⟩ : ∃ x, x = w' := ⟨w', rfl⟩
  subst hW0
  refine wpIn_range_it (α := Value) rfl (by omega) (gf := 139) (lb := #[.pointer (some ⟨w.heap.size + 1, 0, none⟩)]) rfl trivial (enters_of Tryz.func139 (by kernel_rfl) rfl)
    (back_it (5 - 1) (by omega) (w.heap.size + 1) b 0 1 k x W0 (by omega) hx2.1 (hBs.2 0 _ rfl).1 (hx2.2 0 _ rfl).1) (Below.refl _ _) (fun _ => rfl)
    (fun i W => (i = 0 ∧ (At W P #[.slice la 0 lc, .int .i64 (g + 1), mp, .int .i64 mk] ∧ W.ownsRow (P + 1) 58 1 (.slice la 0 lc) 0 []) ∧ At W w.heap.size #[.pointer (some ⟨P, 0, none⟩)] ∧ Below N w W) ∨ (i = 1 ∧ (∃ gg cap : Nat, At W P #[.slice (some ⟨gg, 0, none⟩) 1 cap, .int .i64 (g + 1), mp, .int .i64 mk] ∧ W.ownsRow (P + 1) 58 1 (.slice (some ⟨gg, 0, none⟩) 1 cap) 1 [.iface k x]) ∧ Below N w W)) (fun _ _ => False)
    (.inl ⟨rfl, ⟨hA2, hr2⟩, hB2', hbW⟩) (fun i s A B _ h e => by subst e; exact h) (fun s k A B o _ h _ e => by subst e; exact h) ?al ?pu (fun _ _ _ _ _ _ _ _ h => h) (Bd := fun _ _ => True) (fun _ _ _ _ _ _ _ => trivial)
    (fun x => { tmps := #[.pointer (some ⟨P, 0, none⟩), .slice (some ⟨b, 0, none⟩) 1 1, .pointer (some ⟨w.heap.size, 0, none⟩), undef, undef, x, .pointer (some ⟨P, 0, none⟩), .pointer (some ⟨P, 0, none⟩), .pointer (some ⟨P, 1, none⟩), .int .i64 g, .slice (some ⟨b, 0, none⟩) 1 1, .int .i64 1, .int .i64 (g + 1), .pointer (some ⟨P, 0, none⟩), .pointer (some ⟨P, 1, none⟩), .slice (some ⟨b, 0, none⟩) 1 1, .func (.func 139) #[] #[.pointer (some ⟨w.heap.size + 1, 0, none⟩)], .int .i64 0, x, undef, undef, undef, undef, undef, undef, undef, undef, undef, undef, undef, undef], defers := [] }) ?assign ?body ?done ?stop
  case al =>
    rintro i A o (⟨rfl, ⟨h1, h2⟩, h3, h4⟩ | ⟨rfl, ⟨gg, cap, h1, h2⟩, h4⟩)
    · exact .inl ⟨rfl, ⟨h1.later (bel1 _ _), own_later h2 (bel1 _ _)⟩, h3.later (bel1 _ _), h4.trans ((bel1 _ _).mono (by have := h3.1; omega))⟩
    · exact .inr ⟨rfl, ⟨gg, cap, h1.later (bel1 _ _), own_later h2 (bel1 _ _)⟩, h4.trans ((bel1 _ _).mono (by have := h1.1; omega))⟩
  case pu =>
    rintro i A l o o' hl ho hc (⟨rfl, ⟨h1, h2⟩, h3, h4⟩ | ⟨rfl, ⟨gg, cap, h1, h2⟩, h4⟩)
    · exact .inl ⟨rfl, ⟨h1.put o' ho hc, ownsRow_putObj h2 o' ho hc⟩, h3.put o' ho hc, below_put h4 o' ho (by omega)⟩
    · exact .inr ⟨rfl, ⟨gg, cap, h1.put o' ho hc, ownsRow_putObj h2 o' ho hc⟩, below_put h4 o' ho (by omega)⟩
  case assign =>
    intro l x W K hK
    gi_wp2
    exact hK
  case body =>
    rintro l i y W hy hsw (⟨rfl, ⟨h1, h2⟩, h3, h4⟩ | ⟨rfl, _⟩)
    · obtain rfl : .iface k x = y := by simpa using hy
      have cp := (h3.2 0 _ rfl).1
      have cl := (h1.2 0 _ rfl).1
      have zl := (h1.2 0 _ rfl).2
      obtain ⟨i0, hi, hz0, hz1, hz2⟩ := info_parts Tryz.info58
      have HI : Hid (Tryz.prog.info? 58 = some i0 ∧ i0.zero = some .nilIface ∧ i0.size = 1 ∧ i0.bytes = 16) := ⟨hi, hz0, hz1, hz2⟩
      have H1 : Hid (At W P #[.slice la 0 lc, .int .i64 (g + 1), mp, .int .i64 mk]) := h1
      have H2 : Hid (W.ownsRow (P + 1) 58 1 (.slice la 0 lc) 0 []) := h2
      have H3 : Hid (At W w.heap.size #[.pointer (some ⟨P, 0, none⟩)]) := h3
      clear hi hz0 hz1 hz2 h1 h2 h3 cp cl zl
      gi_wp2
      refine wpIn_region_round (by kernel_rfl) (fun ⟨_, _, h⟩ => h) (by kernel_rfl) ?_
      refine region_facts_two (fun X => Below W.heap.size W X) (GE (fun q => match q with | 0 => .pointer (some ⟨P, 0, none⟩) | 1 => .pointer (some ⟨P, 0, none⟩) | 2 => .pointer (some ⟨P, 0, none⟩) | 3 => .pointer (some ⟨P, 0, none⟩) | 4 => .slice la 0 lc | 5 => .iface k x | _ => undef) (fun q => match q with | 6 => some (fun v X => ∃ g9, v = .slice (some ⟨g9, 0, none⟩) 1 1 ∧ At X g9 #[.iface k x]) | _ => none)) (n := 31) 7 0 8 (by decide) (by decide) (by kernel_rfl) (by kernel_rfl) rfl (by kernel_rfl) (GE_later _ _ (by
        intro q F hF v w w' h hb
        match q, hF with
        | 6, hF =>
          obtain rfl := Option.some.inj hF
          obtain ⟨g9, hg, h9⟩ := h
          exact ⟨g9, hg, h9.later hb⟩)) ?_ ?_ ((Below.refl _ _).drew) (Nat.le_refl _)
      · refine ⟨?_, ?_, ?_, ?_, ?_, ?_, ?_, trivial⟩
        · intro ac w1 hS hT hB hD K hK
          rw [if_pos (by rfl)]
          have d2 : ac.tmps.getD 2 undef = .pointer (some ⟨w.heap.size, 0, none⟩) := hB 2 (by kernel_rfl)
          have hc := ((H3.out.later hS).2 0 _ rfl).1
          clear hB hD hT
          go_simp
          exact hK _ _ hS (Below.refl _ _) rfl
        · intro ac w1 hS hT hB hD K hK
          rw [if_pos (by rfl)]
          have d2 : ac.tmps.getD 2 undef = .pointer (some ⟨w.heap.size, 0, none⟩) := hB 2 (by kernel_rfl)
          have hc := ((H3.out.later hS).2 0 _ rfl).1
          clear hB hD hT
          go_simp
          exact hK _ _ hS (Below.refl _ _) rfl
        · intro ac w1 hS hT hB hD K hK
          rw [if_pos (by rfl)]
          have d22 : ac.tmps.getD 22 undef = .pointer (some ⟨P, 0, none⟩) := hD ⟨1, .data⟩ (by simp) rfl _ 22 rfl rfl
          clear hB hD hT
          go_simp
          exact hK _ _ hS (Below.refl _ _) rfl
        · intro ac w1 hS hT hB hD K hK
          rw [if_pos (by rfl)]
          have d23 : ac.tmps.getD 23 undef = .pointer (some ⟨P, 0, none⟩) := hD ⟨2, .data⟩ (by simp) rfl _ 23 rfl rfl
          clear hB hD hT
          go_simp
          exact hK _ _ hS (Below.refl _ _) rfl
        · intro ac w1 hS hT hB hD K hK
          rw [if_pos (by rfl)]
          have d24 : ac.tmps.getD 24 undef = .pointer (some ⟨P, 0, none⟩) := hD ⟨3, .data⟩ (by simp) rfl _ 24 rfl rfl
          have hc := ((H1.out.later hS).2 0 _ rfl).1
          clear hB hD hT
          go_simp
          exact hK _ _ hS (Below.refl _ _) rfl
        · intro ac w1 hS hT hB hD K hK
          rw [if_pos (by rfl)]
          have d5 : ac.tmps.getD 5 undef = .iface k x := hB 5 (by kernel_rfl)
          clear hB hD hT
          go_simp
          exact hK _ _ hS (Below.refl _ _) rfl
        · intro ac w1 hS hT hB hD K hK
          rw [if_pos (by rfl)]
          have d26 : ac.tmps.getD 26 undef = .iface k x := hD ⟨5, .data⟩ (by simp) rfl _ 26 rfl rfl
          clear hB hD hT
          exact wp_bslice1 187 58 (.tmp 26) _ _ rfl d26 (bs174 k x _) (hK _ _ (bt hS (bel1 _ _)) (bel1 _ _) ⟨_, rfl, At.box w1 #[.iface k x] 58⟩)
      · intro ac w1 zl hS hT hdf hB hF
        obtain ⟨⟨T⟩, df⟩ := ac
        match T, hT with
        | [x0, x1, x2, x3, x4, x5, x6, x7, x8, x9, x10, x11, x12, x13, x14, x15, x16, x17, x18, x19, x20, x21, x22, x23, x24, x25, x26, x27, x28, x29, x30], _ =>
        have s2 : x2 = .pointer (some ⟨w.heap.size, 0, none⟩) := hB 2 (by kernel_rfl)
        have s25 : x25 = .slice la 0 lc := hF 4 _ 25 (by decide) (fun h => by cases h) rfl rfl
        obtain ⟨g9, s27, h9⟩ : ∃ g9, x27 = .slice (some ⟨g9, 0, none⟩) 1 1 ∧ At w1 g9 #[.iface k x] := hF 6 _ 27 (by decide) (fun h => by cases h) rfl rfl
        have s21 : zl = true → x21 = .pointer (some ⟨P, 0, none⟩) := fun h => hF 0 _ 21 (by decide) (fun _ => h) rfl rfl
        have sdf : df = [] := hdf
        clear hB hF hdf
        subst s2 s25 s27 sdf
        refine wpOp_step (by rfl) fun Kc hKc => ?_
        rw [if_pos (by rfl)]
        have hown1 := own_later H2.out hS
        have hPs : P + 1 ≤ w1.heap.size := by have := (H1.out.later hS).1; omega
        refine wp_append_own w1 (.tmp 25) (.tmp 27) 187 (by rfl) (P + 1) 58 i0 .nilIface 1 16 Tryz.underlying187 HI.out.1 HI.out.2.1 HI.out.2.2.1 HI.out.2.2.2 rfl (by decide) (.slice la 0 lc) 0 [] (by rfl) hown1 ⟨g9, 0, none⟩ 1 1 [.iface k x] (by rfl) rfl (one_news (h9.2 0 _ rfl).1) (by simp [Value.oneCell']) (by unfold maxLen; omega) (by omega) hPs ?_
        intro v9 w9 hown9 hgrow9 hnil9
        have hbg : Below (P + 1) w1 w9 := (Below.refl _ _).grown hgrow9 hPs (fun q e => (hown1.lt q e).1)
        have hA9 := (H1.out.later hS).below hbg (Nat.lt_succ_self P)
        have hb9 : Below N w w9 := (h4.trans (hS.mono (by have := H1.out.1; omega))).trans (hbg.mono (by omega))
        have hkf : KeepsFrom W0.heap.size W w9 := ((keepsFrom_of_below hS).trans ((KeepsOthers.of_grownBy hgrow9 (fun j ob ej hj => own_cells hown1 ej hj)).from _))
        have hcp : W.heap.size ≤ w9.heap.size := Nat.le_trans hS.size hbg.size
        have hc9 : zl = false → w9.cell? ⟨w.heap.size, 0, none⟩ = some (.pointer (some ⟨P, 0, none⟩)) := fun _ => by
          have hk := (H3.out.later hS)
          refine Eq.trans (World.cell?_of_block (hgrow9.block w.heap.size hk.1 ?_)) (hk.2 0 _ rfl).1
          intro e
          have := hla _ e.symm
          omega
        replace hown9 : w9.ownsRow (P + 1) 58 1 v9 1 [.iface k x] := hown9
        obtain ⟨gg, cap, rfl⟩ := ownsRow_succ hown9
        have cl := (hA9.2 0 _ rfl).1
        have zl9 := (hA9.2 0 _ rfl).2
        apply hKc
        clear hKc Kc
        clear hS hown1 hPs hgrow9 hnil9 hbg hcp h9
        cases zl
        · clear s21
          have hcb := hc9 rfl
          clear hc9
          refine any_one (i := 0) (by kernel_rfl) (by rfl) ?_
          intro Kc hKc
          rw [if_pos (by rfl)]
          go_simp
          apply hKc
          clear hKc Kc
          refine any_one (i := 8) (by kernel_rfl) (by rfl) ?_
          intro Kc hKc
          rw [if_pos (by rfl)]
          go_simp
          apply hKc
          clear hKc Kc
          refine any_one (i := 9) (by kernel_rfl) (by rfl) ?_
          intro Kc hKc
          rw [if_pos (by rfl)]
          go_simp
          apply hKc
          clear hKc Kc
          refine any_one (i := 10) (by kernel_rfl) (by rfl) ?_
          intro Kc hKc
          rw [if_pos (by rfl)]
          go_simp
          apply hKc
          clear hKc Kc
          refine any_done (by kernel_rfl) ?_
          exact ⟨hkf.trans ((KeepsOthers.setCell _ _ _).from _), trivial, .inr ⟨rfl, ⟨gg, cap, hA9.set 0 _, own_setCell hown9 P 0 _ (Nat.lt_succ_self P)⟩, hb9.setCell (p := ⟨P, 0, none⟩) hN _⟩⟩
        · obtain rfl := s21 rfl
          clear hc9 s21
          refine any_one (i := 8) (by kernel_rfl) (by rfl) ?_
          intro Kc hKc
          rw [if_pos (by rfl)]
          go_simp
          apply hKc
          clear hKc Kc
          refine any_one (i := 9) (by kernel_rfl) (by rfl) ?_
          intro Kc hKc
          rw [if_pos (by rfl)]
          go_simp
          apply hKc
          clear hKc Kc
          refine any_one (i := 10) (by kernel_rfl) (by rfl) ?_
          intro Kc hKc
          rw [if_pos (by rfl)]
          go_simp
          apply hKc
          clear hKc Kc
          refine any_done (by kernel_rfl) ?_
          exact ⟨hkf.trans ((KeepsOthers.setCell _ _ _).from _), trivial, .inr ⟨rfl, ⟨gg, cap, hA9.set 0 _, own_setCell hown9 P 0 _ (Nat.lt_succ_self P)⟩, hb9.setCell (p := ⟨P, 0, none⟩) hN _⟩⟩
    · simp at hy
  case done =>
    rintro D W hD (⟨h0, _⟩ | ⟨_, ⟨gg, cap, h1, h2⟩, h4⟩) hK
    · simp at h0
    · gi_wp2
      refine ⟨by simp, .inl ⟨_, _, rfl, run_takeDeferred hK, ?_⟩⟩
      exact ⟨_, results_none rfl _ _ _, rfl, ⟨gg, cap, h1.put _ hK rfl, ownsRow_putObj h2 _ hK rfl⟩, below_put h4 _ hK (by omega)⟩
  case stop =>
    rintro D i W _ _ h _
    exact h.elim
end Go.Proofs.YthjbmloemmggaaaGreatDoor
