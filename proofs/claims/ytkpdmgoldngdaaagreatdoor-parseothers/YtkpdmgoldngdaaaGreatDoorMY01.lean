/- the texts Xb, Xc, Xi, in part, merged by program -/
import Derived.Test.YtkpdmgoldngdaaaGreatDoorProg
import Derived.Test.YtkpdmgoldngdaaaGreatDoorRows
import Derived.Recover
import Derived.Stop.Asserts
import Derived.WalkKit
import Derived.WalkSpells
import Derived.Laws.OwnMore
import Derived.Laws.AppendOwn
import Derived.Laws.AppendOwnNone
import Derived.RangeFuncNested
import Derived.RangeFuncLeaves
import Derived.Shelf.Abstract
import Derived.LaidEql
import Derived.RowKitTokens
import Derived.Deep.QuietTactic
import Derived.RegionTactic
import Derived.Below
import Derived.Laws.Tables
import Derived.Great.BuildSlice
import Derived.Deep.LoopGhost
import Derived.Deep.RegionHeld3
import Derived.BigQuiet
import Derived.WalkSmall
import Derived.Laws.StructEq
import Derived.Shelf.Strings.Repeat
import Derived.RangeFuncBox
import Derived.OwnWalkIn
import Derived.TacticsInMore
import Derived.LoopNIn
import Derived.LoopIn
import Derived.Maps.AppendAt
import Derived.Shelf.RegionOpen
import Derived.Deep.Light
import Derived.OrdersIn
import Derived.RangeFuncCalls
import Derived.Test.YtkpdmgoldngdaaaGreatDoorMA01
import Derived.Test.YtkpdmgoldngdaaaGreatDoorMA04
import Derived.Test.YtkpdmgoldngdaaaGreatDoorMA06
import Derived.Test.YtkpdmgoldngdaaaGreatDoorMD01
import Derived.Test.YtkpdmgoldngdaaaGreatDoorMD02
import Derived.Test.YtkpdmgoldngdaaaGreatDoorMG01
import Derived.Test.YtkpdmgoldngdaaaGreatDoorMG03
import Derived.Test.YtkpdmgoldngdaaaGreatDoorMH01
import Derived.Test.YtkpdmgoldngdaaaGreatDoorMH02
import Derived.Test.YtkpdmgoldngdaaaGreatDoorMO01
import Derived.Test.YtkpdmgoldngdaaaGreatDoorMP01
import Derived.Test.YtkpdmgoldngdaaaGreatDoorMP03
import Derived.Test.YtkpdmgoldngdaaaGreatDoorMS01
namespace Go.Proofs.YtkpdmgoldngdaaaGreatDoor
open Go.RowKit Go.Stop
set_option maxRecDepth 100000
set_option linter.unusedVariables false
set_option linter.unusedSimpArgs false
theorem has54_195 (v : Value) (xT : TypeId) (w : World) : (Instr.typeAssert (.iface 54 v) xT 195 true).run Tryz.prog w = .ok (.tuple #[.iface 54 v, .bool true]) w := run_typeAssert_hasB Tryz.underlying195 (by kernel_rfl) v xT w
theorem lacks54_181 (v : Value) (xT : TypeId) (w : World) : (Instr.typeAssert (.iface 54 v) xT 181 true).run Tryz.prog w = .ok (.tuple #[.nilIface, .bool false]) w := run_typeAssert_lacksB Tryz.underlying181 (by kernel_rfl) (by kernel_rfl) v xT w
theorem unwrap54 (p : Option Addr) (w : World) : (Go.method 374 54 (.pointer p) "Unwrap").run Tryz.prog w = .ok (196, .pointer p) w := by kernel_rfl
set_option maxHeartbeats 2000000 in
theorem wrap_bare (p : Nat) (k : TypeId) (x : Value) (w : World) (h : At w p #[.iface k x]) :
    Calls Tryz.prog 151 #[.iface 54 (.pointer (some ⟨p, 0, none⟩))] w fun e w' => e = .returned (.tuple #[.iface k x, .slice none 0 0]) ∧ w' = w := by
  have c2 := (h.2 0 _ rfl).1
  have f1 := has54_195
  have f2 := unwrap54
  go_enter_defers Tryz.func151, Tryz.ntmps151
  go_wp2
  refine leaves_cons (f := 166) (args := #[]) (by simp) (by simp [go_sem]) ?_
  refine (rec166 _).mono ?_
  rintro e u' w'' ⟨rfl, rfl, rfl⟩
  simp [Leaves, settle, results, Tryz.results151, go_sem]
set_option maxHeartbeats 2000000 in
theorem wrap_bare0 (p : Nat) (w : World) (h : At w p #[.nilIface]) :
    Calls Tryz.prog 151 #[.iface 54 (.pointer (some ⟨p, 0, none⟩))] w fun e w' => e = .returned (.tuple #[.nilIface, .slice none 0 0]) ∧ w' = w := by
  have c2 := (h.2 0 _ rfl).1
  have f1 := has54_195
  have f2 := unwrap54
  go_enter_defers Tryz.func151, Tryz.ntmps151
  go_wp2
  refine leaves_cons (f := 166) (args := #[]) (by simp) (by simp [go_sem]) ?_
  refine (rec166 _).mono ?_
  rintro e u' w'' ⟨rfl, rfl, rfl⟩
  simp [Leaves, settle, results, Tryz.results151, go_sem]
end Go.Proofs.YtkpdmgoldngdaaaGreatDoor

namespace Go.Proofs.YtkpdmgoldngdaaaGreatDoor
open Go.RowKit Go.Stop
set_option maxRecDepth 100000
set_option linter.unusedVariables false
set_option linter.unusedSimpArgs false
theorem not54_41 (v : Value) (xT : TypeId) (w : World) : (Instr.typeAssert (.iface 54 v) xT 41 true).run Tryz.prog w = .ok (.tuple #[.int .i64 0, .bool false]) w := by kernel_rfl
theorem not54_88 (v : Value) (xT : TypeId) (w : World) : (Instr.typeAssert (.iface 54 v) xT 88 true).run Tryz.prog w = .ok (.tuple #[.pointer none, .bool false]) w := by kernel_rfl
set_option maxHeartbeats 2000000 in
theorem own82_bare (p : Nat) (w : World) :
    Calls Tryz.prog 82 #[.iface 54 (.pointer (some ⟨p, 0, none⟩))] w fun e w' => e = .returned (.tuple #[.int .i64 0, .bool false]) ∧ Below w.heap.size w w' := by
  have f1 := lacks54_181
  have f2 := not54_41
  go_enter_defers Tryz.func82, Tryz.ntmps82
  go_wp2
  refine leaves_cons (f := 128) (args := #[]) (by simp) (by simp [go_sem]) ?_
  refine (rec128 _).mono ?_
  rintro e u' w'' ⟨rfl, rfl, rfl⟩
  simp only [Leaves, settle]
  exact ⟨.tuple #[.int .i64 0, .bool false], by simp [results, Tryz.results82, go_sem], rfl, Below.refl _ _⟩
set_option maxHeartbeats 2000000 in
theorem own124_bare (p : Nat) (w : World) :
    Calls Tryz.prog 124 #[.iface 54 (.pointer (some ⟨p, 0, none⟩))] w fun e w' => e = .returned (.tuple #[.pointer none, .bool false]) ∧ Below w.heap.size w w' := by
  have f1 := lacks54_181
  have f2 := not54_88
  go_enter_defers Tryz.func124, Tryz.ntmps124
  go_wp2
  refine leaves_cons (f := 149) (args := #[]) (by simp) (by simp [go_sem]) ?_
  refine (rec149 _).mono ?_
  rintro e u' w'' ⟨rfl, rfl, rfl⟩
  simp only [Leaves, settle]
  exact ⟨.tuple #[.pointer none, .bool false], by simp [results, Tryz.results124, go_sem], rfl, Below.refl _ _⟩
end Go.Proofs.YtkpdmgoldngdaaaGreatDoor

namespace Go.Proofs.YtkpdmgoldngdaaaGreatDoor
open Go.RowKit
set_option maxRecDepth 100000
set_option linter.unusedVariables false
set_option linter.unusedSimpArgs false
theorem chain_bare0 (p : Nat) (w : World) (h : At w p #[.nilIface]) : ChainOf w [.iface 54 (.pointer (some ⟨p, 0, none⟩))] := by
  refine ⟨by simp, fun i x hx => ?_⟩
  match i, hx with
  | 0, hx =>
    obtain rfl : .iface 54 (.pointer (some ⟨p, 0, none⟩)) = x := by simpa using hx
    exact ⟨⟨_, _, rfl⟩, fun W hW => wrap_bare0 p W (h.later hW)⟩
  | n + 1, hx => simp at hx
theorem chain_bare1 (p q : Nat) (l : ByteArray) (a c : Int) (w : World) (hp : At w p #[.iface 88 (.pointer (some ⟨q, 0, none⟩))]) (h : At w q #[.string l, .int .i64 a, .iface 41 (.int .i64 c)]) : ChainOf w [.iface 54 (.pointer (some ⟨p, 0, none⟩)), .iface 88 (.pointer (some ⟨q, 0, none⟩)), .iface 41 (.int .i64 c)] := by
  refine ⟨by simp, fun i x hx => ?_⟩
  match i, hx with
  | 0, hx =>
    obtain rfl : .iface 54 (.pointer (some ⟨p, 0, none⟩)) = x := by simpa using hx
    exact ⟨⟨_, _, rfl⟩, fun W hW => wrap_bare p 88 (.pointer (some ⟨q, 0, none⟩)) W (hp.later hW)⟩
  | 1, hx =>
    obtain rfl : .iface 88 (.pointer (some ⟨q, 0, none⟩)) = x := by simpa using hx
    exact ⟨⟨_, _, rfl⟩, fun W hW => wrap_fail q l a 41 (.int .i64 c) W (h.later hW)⟩
  | 2, hx =>
    obtain rfl : .iface 41 (.int .i64 c) = x := by simpa using hx
    exact ⟨⟨_, _, rfl⟩, fun W hW => wrap_code c W⟩
  | n + 3, hx => simp at hx
set_option maxHeartbeats 1000000 in
theorem Cfirst_bare0 (p : Nat) (w : World) (h : At w p #[.nilIface]) :
    Calls Tryz.prog 43 #[.iface 54 (.pointer (some ⟨p, 0, none⟩)), .func (.func 44) #[] #[]] w fun e w' => e = .returned (.tuple #[.int .i64 0, .bool false]) ∧ Below w.heap.size w w' := by
  refine (firstC [.iface 54 (.pointer (some ⟨p, 0, none⟩))] (fun i => match i with | _ => false) (fun _ => 0) 54 (.pointer (some ⟨p, 0, none⟩)) w rfl (chain_bare0 p w h) ?_ ?_).mono ?_
  · intro i x W hx hok hW
    match i, hx, hok with
    | 0, hx, hok =>
      obtain rfl : .iface 54 (.pointer (some ⟨p, 0, none⟩)) = x := by simpa using hx
      exact own82_bare p W
    | n + 1, hx, hok => simp at hx
  · intro i x W hx hok hW
    match i, hx, hok with
    | 0, hx, hok => simp at hok
    | n + 1, hx, hok => simp at hx
  · rintro e w' ⟨(⟨i, hi, hok, hno, rfl⟩ | ⟨hno, rfl⟩), hb⟩
    · match i, hok with
      | 0, hok => simp at hok
      | n + 1, hok => simp at hok
    · exact ⟨rfl, hb⟩
set_option maxHeartbeats 1000000 in
theorem Ffirst_bare0 (p : Nat) (w : World) (h : At w p #[.nilIface]) :
    Calls Tryz.prog 79 #[.iface 54 (.pointer (some ⟨p, 0, none⟩)), .func (.func 80) #[] #[]] w fun e w' => e = .returned (.tuple #[.pointer none, .bool false]) ∧ Below w.heap.size w w' := by
  refine (firstF [.iface 54 (.pointer (some ⟨p, 0, none⟩))] (fun i => match i with | _ => false) (fun _ => ⟨0, 0, none⟩) 54 (.pointer (some ⟨p, 0, none⟩)) w rfl (chain_bare0 p w h) ?_ ?_).mono ?_
  · intro i x W hx hok hW
    match i, hx, hok with
    | 0, hx, hok =>
      obtain rfl : .iface 54 (.pointer (some ⟨p, 0, none⟩)) = x := by simpa using hx
      exact own124_bare p W
    | n + 1, hx, hok => simp at hx
  · intro i x W hx hok hW
    match i, hx, hok with
    | 0, hx, hok => simp at hok
    | n + 1, hx, hok => simp at hx
  · rintro e w' ⟨(⟨i, hi, hok, hno, rfl⟩ | ⟨hno, rfl⟩), hb⟩
    · match i, hok with
      | 0, hok => simp at hok
      | n + 1, hok => simp at hok
    · exact ⟨rfl, hb⟩
set_option maxHeartbeats 1000000 in
theorem Cfirst_bare1 (p q : Nat) (l : ByteArray) (a c : Int) (w : World) (hE : Ety w) (hp : At w p #[.iface 88 (.pointer (some ⟨q, 0, none⟩))]) (h : At w q #[.string l, .int .i64 a, .iface 41 (.int .i64 c)]) :
    Calls Tryz.prog 43 #[.iface 54 (.pointer (some ⟨p, 0, none⟩)), .func (.func 44) #[] #[]] w fun e w' => e = .returned (.tuple #[.int .i64 c, .bool true]) ∧ Below w.heap.size w w' := by
  refine (firstC [.iface 54 (.pointer (some ⟨p, 0, none⟩)), .iface 88 (.pointer (some ⟨q, 0, none⟩)), .iface 41 (.int .i64 c)] (fun i => match i with | 2 => true | _ => false) (fun _ => c) 54 (.pointer (some ⟨p, 0, none⟩)) w rfl (chain_bare1 p q l a c w hp h) ?_ ?_).mono ?_
  · intro i x W hx hok hW
    match i, hx, hok with
    | 0, hx, hok =>
      obtain rfl : .iface 54 (.pointer (some ⟨p, 0, none⟩)) = x := by simpa using hx
      exact own82_bare p W
    | 1, hx, hok =>
      obtain rfl : .iface 88 (.pointer (some ⟨q, 0, none⟩)) = x := by simpa using hx
      exact own82_fail q W
    | 2, hx, hok => simp at hok
    | n + 3, hx, hok => simp at hx
  · intro i x W hx hok hW
    match i, hx, hok with
    | 0, hx, hok => simp at hok
    | 1, hx, hok => simp at hok
    | 2, hx, hok =>
      obtain rfl : .iface 41 (.int .i64 c) = x := by simpa using hx
      exact own82_code c W (hE.later hW)
    | n + 3, hx, hok => simp at hx
  · rintro e w' ⟨(⟨i, hi, hok, hno, rfl⟩ | ⟨hno, rfl⟩), hb⟩
    · exact ⟨rfl, hb⟩
    · have := hno 2 (by simp)
      simp at this
set_option maxHeartbeats 1000000 in
theorem Ffirst_bare1 (p q : Nat) (l : ByteArray) (a c : Int) (w : World) (hE : Ety w) (hp : At w p #[.iface 88 (.pointer (some ⟨q, 0, none⟩))]) (h : At w q #[.string l, .int .i64 a, .iface 41 (.int .i64 c)]) :
    Calls Tryz.prog 79 #[.iface 54 (.pointer (some ⟨p, 0, none⟩)), .func (.func 80) #[] #[]] w fun e w' => e = .returned (.tuple #[.pointer (some ⟨q, 0, none⟩), .bool true]) ∧ Below w.heap.size w w' := by
  refine (firstF [.iface 54 (.pointer (some ⟨p, 0, none⟩)), .iface 88 (.pointer (some ⟨q, 0, none⟩)), .iface 41 (.int .i64 c)] (fun i => match i with | 1 => true | _ => false) (fun _ => ⟨q, 0, none⟩) 54 (.pointer (some ⟨p, 0, none⟩)) w rfl (chain_bare1 p q l a c w hp h) ?_ ?_).mono ?_
  · intro i x W hx hok hW
    match i, hx, hok with
    | 0, hx, hok =>
      obtain rfl : .iface 54 (.pointer (some ⟨p, 0, none⟩)) = x := by simpa using hx
      exact own124_bare p W
    | 1, hx, hok => simp at hok
    | 2, hx, hok =>
      obtain rfl : .iface 41 (.int .i64 c) = x := by simpa using hx
      exact own124_code c W
    | n + 3, hx, hok => simp at hx
  · intro i x W hx hok hW
    match i, hx, hok with
    | 0, hx, hok => simp at hok
    | 1, hx, hok =>
      obtain rfl : .iface 88 (.pointer (some ⟨q, 0, none⟩)) = x := by simpa using hx
      exact own124_fail q W (hE.later hW)
    | 2, hx, hok => simp at hok
    | n + 3, hx, hok => simp at hx
  · rintro e w' ⟨(⟨i, hi, hok, hno, rfl⟩ | ⟨hno, rfl⟩), hb⟩
    · exact ⟨rfl, hb⟩
    · have := hno 1 (by simp)
      simp at this
set_option maxHeartbeats 1000000 in
theorem out_bare0 (p : Nat) (w : World) (h : At w p #[.nilIface]) : Calls Tryz.prog 42 #[.iface 54 (.pointer (some ⟨p, 0, none⟩))] w fun e w' => e = .returned (.tuple #[.pointer none, .bool false]) ∧ Below w.heap.size w w' := by
  go_enter Tryz.func42, Tryz.ntmps42
  go_wp2_with fail
  refine (Ffirst_bare0 p w h).mono ?_
  rintro e w1 ⟨rfl, hb⟩
  go_wp2
  go_ret2
  exact ⟨rfl, hb⟩
set_option maxHeartbeats 1000000 in
theorem out_bare1 (p q : Nat) (l : ByteArray) (a c : Int) (w : World) (hE : Ety w) (hp : At w p #[.iface 88 (.pointer (some ⟨q, 0, none⟩))]) (h : At w q #[.string l, .int .i64 a, .iface 41 (.int .i64 c)]) : Calls Tryz.prog 42 #[.iface 54 (.pointer (some ⟨p, 0, none⟩))] w fun e w' => e = .returned (.tuple #[.pointer (some ⟨q, 0, none⟩), .bool true]) ∧ Below w.heap.size w w' := by
  go_enter Tryz.func42, Tryz.ntmps42
  go_wp2_with fail
  refine (Ffirst_bare1 p q l a c w hE hp h).mono ?_
  rintro e w1 ⟨rfl, hb⟩
  go_wp2
  go_ret2
  exact ⟨rfl, hb⟩
set_option maxHeartbeats 1000000 in
theorem code_bare0 (p : Nat) (w : World) (h : At w p #[.nilIface]) : Calls Tryz.prog 18 #[.iface 54 (.pointer (some ⟨p, 0, none⟩))] w fun e w' => e = .returned (.int .i64 90) ∧ Below w.heap.size w w' := by
  go_enter Tryz.func18, Tryz.ntmps18
  go_wp2_with fail
  refine (Cfirst_bare0 p w h).mono ?_
  rintro e w1 ⟨rfl, hb⟩
  go_wp2
  go_ret
  exact ⟨rfl, hb⟩
set_option maxHeartbeats 1000000 in
theorem code_bare1 (p q : Nat) (l : ByteArray) (a c : Int) (w : World) (hE : Ety w) (hp : At w p #[.iface 88 (.pointer (some ⟨q, 0, none⟩))]) (h : At w q #[.string l, .int .i64 a, .iface 41 (.int .i64 c)]) : Calls Tryz.prog 18 #[.iface 54 (.pointer (some ⟨p, 0, none⟩))] w fun e w' => e = .returned (.int .i64 c) ∧ Below w.heap.size w w' := by
  go_enter Tryz.func18, Tryz.ntmps18
  go_wp2_with fail
  refine (Cfirst_bare1 p q l a c w hE hp h).mono ?_
  rintro e w1 ⟨rfl, hb⟩
  go_wp2
  go_ret
  exact ⟨rfl, hb⟩
set_option maxHeartbeats 1000000 in
theorem is_bare1 (p q : Nat) (l : ByteArray) (a c : Int) (d : Int) (w : World) (hE : Ety w) (hp : At w p #[.iface 88 (.pointer (some ⟨q, 0, none⟩))]) (h : At w q #[.string l, .int .i64 a, .iface 41 (.int .i64 c)]) : Calls Tryz.prog 33 #[.iface 54 (.pointer (some ⟨p, 0, none⟩)), .int .i64 d] w fun e w' => e = .returned (.bool (c == d)) ∧ Below w.heap.size w w' := by
  go_enter Tryz.func33, Tryz.ntmps33
  go_wp2_with fail
  refine (code_bare1 p q l a c w hE hp h).mono ?_
  rintro e w1 ⟨rfl, hb⟩
  go_wp2_with fail
  refine (is_any c d _).mono ?_
  rintro e w2 ⟨rfl, rfl⟩
  go_wp2
  go_ret
  exact ⟨rfl, hb⟩
set_option maxHeartbeats 2000000 in
theorem where_bare0 (p : Nat) (w : World) (h : At w p #[.nilIface]) : Calls Tryz.prog 17 #[.iface 54 (.pointer (some ⟨p, 0, none⟩))] w fun e w' => e = .returned (.tuple #[.string ⟨#[]⟩, .int .i64 0, .bool false]) ∧ Below w.heap.size w w' := by
  go_enter Tryz.func17, Tryz.ntmps17
  go_wp2_with fail
  refine (out_bare0 p w h).mono ?_
  rintro e w1 ⟨rfl, hb⟩
  go_wp2
  go_ret3
  exact ⟨rfl, hb⟩
set_option maxHeartbeats 2000000 in
theorem where_bare1 (p q : Nat) (l : ByteArray) (a c : Int) (w : World) (hE : Ety w) (hp : At w p #[.iface 88 (.pointer (some ⟨q, 0, none⟩))]) (h : At w q #[.string l, .int .i64 a, .iface 41 (.int .i64 c)]) : Calls Tryz.prog 17 #[.iface 54 (.pointer (some ⟨p, 0, none⟩))] w fun e w' => e = .returned (.tuple #[.string l, .int .i64 a, .bool true]) ∧ Below w.heap.size w w' := by
  go_enter Tryz.func17, Tryz.ntmps17
  go_wp2_with fail
  refine (out_bare1 p q l a c w hE hp h).mono ?_
  rintro e w1 ⟨rfl, hb⟩
  replace h := h.later hb
  have c0 := (h.2 0 _ rfl).1
  have c1 := (h.2 1 _ rfl).1
  go_wp2
  go_quiet (fail)
  go_wp2
  go_ret3
  exact ⟨rfl, below_drewN hb nq⟩
set_option maxHeartbeats 2000000 in
theorem shift_bare0 (p : Nat) (b : Int) (w : World) (h : At w p #[.nilIface]) : Calls Tryz.prog 16 #[.iface 54 (.pointer (some ⟨p, 0, none⟩)), .int .i64 b] w fun e w' => e = .returned (.iface 54 (.pointer (some ⟨p, 0, none⟩))) ∧ Below w.heap.size w w' := by
  go_enter Tryz.func16, Tryz.ntmps16
  go_wp2_with fail
  refine (out_bare0 p w h).mono ?_
  rintro e w1 ⟨rfl, hb⟩
  go_wp2
  go_ret
  exact ⟨rfl, hb⟩
set_option maxHeartbeats 4000000 in
theorem shift_bare1 (p q : Nat) (l : ByteArray) (a c : Int) (b : Int) (w : World) (hE : Ety w) (hp : At w p #[.iface 88 (.pointer (some ⟨q, 0, none⟩))]) (h : At w q #[.string l, .int .i64 a, .iface 41 (.int .i64 c)]) (ha0 : 0 ≤ a) (ha1 : a ≤ 140737488365328) (hb0 : -1000 < b) (hb1 : b < 1000) : Calls Tryz.prog 16 #[.iface 54 (.pointer (some ⟨p, 0, none⟩)), .int .i64 b] w fun e w' => ∃ q, e = .returned (.iface 88 (.pointer (some ⟨q, 0, none⟩))) ∧ w.heap.size ≤ q ∧ At w' q #[.string l, .int .i64 (a + b), .iface 41 (.int .i64 c)] ∧ Below w.heap.size w w' := by
  have hw : IntKind.i64.wrap (a + b) = a + b := by rw [IntKind.wrap_i64]; omega
  have hbu : ∀ W, (Instr.build 92 #[(0, .string l), (1, .int .i64 (a + b)), (2, .iface 41 (.int .i64 c))]).run Tryz.prog W = .ok (.agg #[.string l, .int .i64 (a + b), .iface 41 (.int .i64 c)]) W := fun W => run_build W 92 _ _ (by kernel_rfl)
  go_enter Tryz.func16, Tryz.ntmps16
  go_wp2_with fail
  refine (out_bare1 p q l a c w hE hp h).mono ?_
  rintro e w1 ⟨rfl, hb⟩
  replace h := h.later hb
  have c0 := (h.2 0 _ rfl).1
  have c1 := (h.2 1 _ rfl).1
  have c2 := (h.2 2 _ rfl).1
  go_wp2
  go_region
  go_wp2
  go_ret
  exact ⟨_, rfl, by simpa using hb.size, At.box w1.drew #[.string l, .int .i64 (a + b), .iface 41 (.int .i64 c)] 92, bt hb.drew (bel1 w1.drew _)⟩
end Go.Proofs.YtkpdmgoldngdaaaGreatDoor
