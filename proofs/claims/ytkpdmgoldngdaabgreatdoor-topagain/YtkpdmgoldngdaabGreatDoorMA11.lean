/- the texts Wa, Wb, Fr, in part, merged by program -/
import Derived.Test.YtkpdmgoldngdaabGreatDoorProg
import Derived.Test.YtkpdmgoldngdaabGreatDoorRows
import Derived.Deep.RegionHeld3
import Derived.Deep.QuietTactic
import Derived.BigQuiet
import Derived.WalkSmall
import Derived.WalkKit
import Derived.WalkSpells
import Derived.RegionTactic
import Derived.Below
import Derived.Laws.Tables
import Derived.Great.BuildSlice
import Derived.Deep.RegionWith
import Derived.Laws.OwnMore
import Derived.Laws.AppendOwn
import Derived.Laws.AppendOwnNone
import Derived.Deep.LoopGhost
import Derived.Laws.StructEq
import Derived.BigRegion
import Derived.Deep.Light
import Derived.Deep.Cut
import Derived.Shelf.Strings.Repeat
import Derived.Deep.MidRow
import Derived.LoopN
import Derived.LaidEql
import Derived.Stop.Asserts
import Derived.RowKitTokens
import Derived.Recover
import Derived.RangeFuncBox
import Derived.OwnWalkIn
import Derived.TacticsInMore
import Derived.LoopNIn
import Derived.LoopIn
import Derived.Maps.AppendAt
import Derived.Shelf.RegionOpen
import Derived.OrdersIn
import Derived.RangeFuncCalls
import Derived.RangeFuncNested
import Derived.RangeFuncLeaves
import Derived.Shelf.Abstract
import Derived.ProofKit
import Derived.OpenShut
import Derived.ShutString
import Derived.ChangeOld
import Derived.Carry
import Derived.SizedLaws
import Derived.Deep.Fields
import Derived.Deep.SlicePairs
import Derived.LaidMore
import Derived.Lib.LaidTab
import Derived.LaidLaws
import Derived.LaidHandle
import Derived.Test.YtkpdmgoldngdaabGreatDoorMA01
import Derived.Test.YtkpdmgoldngdaabGreatDoorMA02
import Derived.Test.YtkpdmgoldngdaabGreatDoorMA03
import Derived.Test.YtkpdmgoldngdaabGreatDoorMA04
import Derived.Test.YtkpdmgoldngdaabGreatDoorMA05
import Derived.Test.YtkpdmgoldngdaabGreatDoorMA06
import Derived.Test.YtkpdmgoldngdaabGreatDoorMA07
import Derived.Test.YtkpdmgoldngdaabGreatDoorMA08
import Derived.Test.YtkpdmgoldngdaabGreatDoorMA09
import Derived.Test.YtkpdmgoldngdaabGreatDoorMA10
namespace Go.Proofs.YtkpdmgoldngdaabGreatDoor
open Go.RowKit
set_option maxRecDepth 100000
set_option linter.unusedVariables false

def okR (r : Except (ByteArray × Int × Int) Pd) : Prop := match r with
  | .error q => 0 ≤ q.2.1 ∧ q.2.1 ≤ 140737488355362 ∧ (q.2.2 != 0) = true
  | .ok y => y.sg.o.rs.length ≤ 4
theorem finG_err {b : ByteArray} {r : Option Op} {c : Int} (h : finG b r = .error c) : (c != 0) = true := by
  unfold finG at h
  cases r with
  | none => cases h; rfl
  | some o =>
    simp only at h
    split at h
    · cases h
    · cases h; rfl
theorem decG_err {f t : Int} {b : ByteArray} {c : Int} (h : decG f t b = .error c) : (c != 0) = true := by
  unfold decG at h
  split at h
  · split at h
    · split at h
      · exact finG_err h
      · cases h; rfl
    · cases h; rfl
  · cases h; rfl
theorem ip_prog (s : ByteArray) (hs : s.size ≤ 1125899906842624) : ∃ (y : PkT) (c : Int), (∀ W, Calls Tryz.prog 29 #[.string s] W fun e w' => e = .returned (.tuple #[.agg #[.int .i64 y.f, .int .i64 y.t, .int .i64 y.tl, .int .i64 y.pr, .int .i64 y.id, .int .i64 y.fg, .bool y.mo, .bool y.dn, .string y.op, .string y.da], .int .i64 c]) ∧ Below W.heap.size W w') ∧ (c = 0 ∧ Ip.mayP y.f y.t y.tl y.pr y.id y.fg y.mo y.op.size y.da.size = true ∧ y.op.size ≤ 40 ∧ 20 + y.op.size + y.da.size ≤ s.size ∨ (c != 0) = true) := by
  have Z50 := fun (h1 : ∀ W, Calls Tryz.prog 29 #[.string s] W fun e w' => e = .returned (.tuple #[.agg #[.int .i64 0, .int .i64 0, .int .i64 0, .int .i64 0, .int .i64 0, .int .i64 0, .bool false, .bool false, .string ⟨#[]⟩, .string ⟨#[]⟩], .int .i64 50]) ∧ Below W.heap.size W w') => (⟨PkT.zero, 50, h1, .inr rfl⟩ : ∃ (y : PkT) (c : Int), (∀ W, Calls Tryz.prog 29 #[.string s] W fun e w' => e = .returned (.tuple #[.agg #[.int .i64 y.f, .int .i64 y.t, .int .i64 y.tl, .int .i64 y.pr, .int .i64 y.id, .int .i64 y.fg, .bool y.mo, .bool y.dn, .string y.op, .string y.da], .int .i64 c]) ∧ Below W.heap.size W w') ∧ (c = 0 ∧ Ip.mayP y.f y.t y.tl y.pr y.id y.fg y.mo y.op.size y.da.size = true ∧ y.op.size ≤ 40 ∧ 20 + y.op.size + y.da.size ≤ s.size ∨ (c != 0) = true))
  by_cases h20 : 20 ≤ (s.size : Int)
  case neg => exact Z50 (fun W => Ip.dec_1 (.inl (by omega)) W hs)
  cases h4 : (Ip.byS s 0 / 16 != 4)
  case true => exact Z50 (fun W => Ip.dec_1 (.inr ⟨h20, h4⟩) W hs)
  by_cases hH : 20 ≤ Ip.dH s
  case neg => exact Z50 (fun W => Ip.dec_2 h20 h4 (.inl (by omega)) W hs)
  by_cases hL : Ip.dH s ≤ Ip.dL s
  case neg => exact Z50 (fun W => Ip.dec_2 h20 h4 (.inr (.inl ⟨hH, by omega⟩)) W hs)
  by_cases hS : Ip.dL s ≤ (s.size : Int)
  case neg => exact Z50 (fun W => Ip.dec_2 h20 h4 (.inr (.inr ⟨hH, hL, by omega⟩)) W hs)
  by_cases hw : sumS (Ip.headS' s) = 0
  case neg => exact ⟨PkT.zero, 20, fun W => Ip.dec_3 h20 h4 hH hL hS hw W hs, .inr rfl⟩
  cases h1 : (Ip.byS s 1 != 0)
  case true => exact Z50 (fun W => Ip.dec_4 h20 h4 hH hL hS hw (.inl h1) W hs)
  cases h6 : (Ip.byS s 6 / 128 != 0)
  case true => exact Z50 (fun W => Ip.dec_4 h20 h4 hH hL hS hw (.inr ⟨h1, h6⟩) W hs)
  cases hm : Ip.mayD s
  case false => exact Z50 (fun W => Ip.dec_4b h20 h4 hH hL hS hw h1 h6 hm W hs)
  refine ⟨⟨Ip.dF s, Ip.dT s, Ip.dTl s, Ip.dPr s, Ip.dId s, Ip.dFr s, Ip.dMo s, Ip.dDn s, Ip.dOp s, Ip.dDa s⟩, 0, fun W => Ip.dec_5 h20 h4 hH hL hS hw h1 h6 hm W hs, .inl ⟨rfl, hm, ?_, ?_⟩⟩
  · show (Ip.dOp s).size ≤ 40
    have := Ip.dOp_size hH hL hS
    have := Ip.dH_bd s
    omega
  · show 20 + (Ip.dOp s).size + (Ip.dDa s).size ≤ s.size
    have := Ip.dOp_size hH hL hS
    have := Ip.dDa_size hH hL hS
    omega
def TcpP (y : PkT) (z : Pd) : Prop := (Ip.mayP y.f y.t y.tl y.pr y.id y.fg y.mo y.op.size y.da.size = true ∧ Ip.wholeB y.fg y.mo = true ∧ (y.pr == 6) = true) ∧ decG y.f y.t y.da = .ok z.sg ∧ z.pk = y
theorem inn_prog (x : PkT) (ho : x.op.size ≤ 140737488355328) (hd : x.da.size ≤ 140737488351232) : ∃ r, (∀ W, OrE W → Calls Tryz.prog 30 #[.agg #[.int .i64 x.f, .int .i64 x.t, .int .i64 x.tl, .int .i64 x.pr, .int .i64 x.id, .int .i64 x.fg, .bool x.mo, .bool x.dn, .string x.op, .string x.da]] W fun e w' => InnP r W e w') ∧ okR r ∧ (∀ q, r = .error q → q.2.1 ≤ 20 + (x.op.size : Int)) ∧ ∀ z, r = .ok z → z.k = 4 → TcpP x z := by
  have h1 : x.op.size ≤ 1125899906842624 := by omega
  have h2 : x.da.size ≤ 1125899906842624 := by omega
  have e20 : IntKind.i64.wrap (20 + (x.op.size : Int)) = 20 + (x.op.size : Int) := by rw [IntKind.wrap_i64]; omega
  have ER : ∀ (l : ByteArray) (a c : Int), 0 ≤ a → a ≤ 20 + (x.op.size : Int) → (c != 0) = true → (∀ W, OrE W → Calls Tryz.prog 30 #[.agg #[.int .i64 x.f, .int .i64 x.t, .int .i64 x.tl, .int .i64 x.pr, .int .i64 x.id, .int .i64 x.fg, .bool x.mo, .bool x.dn, .string x.op, .string x.da]] W fun e w' => InnP (.error (l, a, c)) W e w') → ∃ r, (∀ W, OrE W → Calls Tryz.prog 30 #[.agg #[.int .i64 x.f, .int .i64 x.t, .int .i64 x.tl, .int .i64 x.pr, .int .i64 x.id, .int .i64 x.fg, .bool x.mo, .bool x.dn, .string x.op, .string x.da]] W fun e w' => InnP r W e w') ∧ okR r ∧ (∀ q, r = .error q → q.2.1 ≤ 20 + (x.op.size : Int)) ∧ ∀ z, r = .ok z → z.k = 4 → TcpP x z :=
    fun l a c h0 ha hc H => ⟨.error (l, a, c), H, ⟨h0, by show a ≤ 140737488355362; omega, hc⟩, fun q e => (by injection e with e; subst e; exact ha), fun z e => (by injection e)⟩
  have OKK : ∀ (z : Pd), z.sg.o.rs.length ≤ 4 → z.k ≠ 4 → (∀ W, OrE W → Calls Tryz.prog 30 #[.agg #[.int .i64 x.f, .int .i64 x.t, .int .i64 x.tl, .int .i64 x.pr, .int .i64 x.id, .int .i64 x.fg, .bool x.mo, .bool x.dn, .string x.op, .string x.da]] W fun e w' => InnP (.ok z) W e w') → ∃ r, (∀ W, OrE W → Calls Tryz.prog 30 #[.agg #[.int .i64 x.f, .int .i64 x.t, .int .i64 x.tl, .int .i64 x.pr, .int .i64 x.id, .int .i64 x.fg, .bool x.mo, .bool x.dn, .string x.op, .string x.da]] W fun e w' => InnP r W e w') ∧ okR r ∧ (∀ q, r = .error q → q.2.1 ≤ 20 + (x.op.size : Int)) ∧ ∀ z, r = .ok z → z.k = 4 → TcpP x z :=
    fun z hn hk H => ⟨.ok z, H, hn, fun q e => (by injection e), fun z' e h4 => (by injection e with e; subst e; exact absurd h4 hk)⟩
  rcases Bool.eq_false_or_eq_true (Ip.mayP x.f x.t x.tl x.pr x.id x.fg x.mo x.op.size x.da.size) with hm | hm
  case inr => exact ER ⟨#[105, 112]⟩ 0 50 (by omega) (by omega) rfl (fun W hW => inn_1 x 50 W (fun W => Ip.chk_f hm W h1 h2) rfl)
  have C1 := fun W => Ip.chk_t (dn := x.dn) hm W h1 h2
  have W1 := fun W => Ip.whl_any x.f x.t x.tl x.pr x.id x.fg x.mo x.dn x.op x.da W
  rcases Bool.eq_false_or_eq_true (Ip.wholeB x.fg x.mo) with hw | hw
  case inr =>
    rw [hw] at W1
    exact OKK (⟨2, FrT.zero, ArT.zero, x, IcT.zero, Sg.zero⟩ : Pd) (Nat.zero_le _) (by show (2 : Int) ≠ 4; decide) (fun W hW => inn_2 x W C1 W1)
  rw [hw] at W1
  rcases Bool.eq_false_or_eq_true (x.pr == 1) with q1 | q1
  · by_cases hz : (x.da.size : Int) < 8 ∨ 8 ≤ (x.da.size : Int) ∧ 65508 < (x.da.size : Int)
    · exact ER ⟨#[105, 99, 109, 112]⟩ (20 + (x.op.size : Int)) 60 (by omega) (by omega) rfl (fun W hW => inn_3 x IcT.zero 60 W C1 W1 e20 ho q1 (fun W => Ip.idec_1 hz W h2) rfl)
    · have k8 : 8 ≤ (x.da.size : Int) := by omega
      have k9 : (x.da.size : Int) ≤ 65508 := by omega
      rcases Bool.eq_false_or_eq_true (sumS x.da == 0) with hs | hs
      · exact OKK (⟨3, FrT.zero, ArT.zero, x, ⟨Ip.iTy x.da, Ip.iCo x.da, Ip.iX x.da, Ip.iY x.da, Ip.iDa x.da⟩, Sg.zero⟩ : Pd) (Nat.zero_le _) (by show (3 : Int) ≠ 4; decide) (fun W hW => inn_4 x ⟨Ip.iTy x.da, Ip.iCo x.da, Ip.iX x.da, Ip.iY x.da, Ip.iDa x.da⟩ W C1 W1 e20 ho q1 (fun W => Ip.idec_3 k8 k9 hs W))
      · exact ER ⟨#[105, 99, 109, 112]⟩ (20 + (x.op.size : Int)) 20 (by omega) (by omega) rfl (fun W hW => inn_3 x IcT.zero 20 W C1 W1 e20 ho q1 (fun W => Ip.idec_2 k8 k9 hs W) rfl)
  · rcases Bool.eq_false_or_eq_true (x.pr == 6) with q6 | q6
    · have D1 := fun W (hW : OrE W) => decs_any x.f x.t x.da W hW.1 hd
      cases hg : decG x.f x.t x.da with
      | error c =>
        rw [hg] at D1
        have hc : (c != 0) = true := decG_err hg
        exact ER ⟨#[116, 99, 112]⟩ (20 + (x.op.size : Int)) c (by omega) (by omega) hc (fun W hW => inn_6 x c W hW C1 W1 e20 ho q1 q6 D1 hc)
      | ok s =>
        rw [hg] at D1
        obtain ⟨-, -, -, -, -, -, -, hso, -⟩ := may_all (decG_may hg)
        exact ⟨.ok (⟨4, FrT.zero, ArT.zero, x, IcT.zero, s⟩ : Pd), fun W hW => inn_7 x s W hW C1 W1 e20 ho q1 q6 D1, mayO_short hso, fun q e => (by injection e), fun z e _ => (by injection e with e; subst e; exact ⟨⟨hm, hw, q6⟩, hg, rfl⟩)⟩
    · exact ER ⟨#[105, 112]⟩ 0 90 (by omega) (by omega) rfl (fun W hW => inn_5 x W C1 W1 e20 ho q1 q6)
def Tcp (st : ByteArray) (z : Pd) : Prop := ∃ y : PkT, TcpP y z ∧ Eth.decB st = true ∧ z.fr = ⟨Eth.deT st, Eth.deF st, Eth.deK st, Eth.deD st⟩ ∧ (Eth.deK st == 2048) = true ∧ 20 + y.op.size + y.da.size ≤ (Eth.deD st).size
theorem par_prog (st : ByteArray) (hs : st.size ≤ 140737488351232) (HN : ShNil) (HF : ShFail 14) : ∃ r, (∀ W, OrE W → Calls Tryz.prog 5 #[.string st] W fun e w' => InnP r W e w') ∧ okR r ∧ ∀ z, r = .ok z → z.k = 4 → Tcp st z := by
  have ER : ∀ (l : ByteArray) (a c : Int), 0 ≤ a → a ≤ 1000 → (c != 0) = true → (∀ W, OrE W → Calls Tryz.prog 5 #[.string st] W fun e w' => InnP (.error (l, a, c)) W e w') → ∃ r, (∀ W, OrE W → Calls Tryz.prog 5 #[.string st] W fun e w' => InnP r W e w') ∧ okR r ∧ ∀ z, r = .ok z → z.k = 4 → Tcp st z :=
    fun l a c h0 ha hc H => ⟨.error (l, a, c), H, ⟨h0, by show a ≤ 140737488355362; omega, hc⟩, fun z e => (by injection e)⟩
  have hsm : st.size ≤ maxLen := by unfold maxLen; omega
  have E1 := fun W => Eth.dec_any st W hsm
  have hdz : (Eth.deD st).size ≤ st.size := by
    unfold Eth.deD
    split
    · rw [Eth.dD_size]; omega
    · exact Nat.zero_le _
  obtain ⟨x, hx⟩ : ∃ x : FrT, x = ⟨Eth.deT st, Eth.deF st, Eth.deK st, Eth.deD st⟩ := ⟨_, rfl⟩
  have E1' : ∀ W, Calls Tryz.prog 11 #[.string st] W fun e w' => e = .returned (.tuple #[.agg #[.int .i64 x.a, .int .i64 x.b, .int .i64 x.k, .string x.d], .int .i64 (Eth.codeE (Eth.decB st))]) ∧ Below W.heap.size W w' := by rw [hx]; exact E1
  have hxd : x.d.size ≤ 140737488351232 := by rw [hx]; show (Eth.deD st).size ≤ _; omega
  clear E1
  rcases Bool.eq_false_or_eq_true (Eth.decB st) with hb | hb
  case inr =>
    rw [hb] at E1'
    exact ER ⟨#[101, 116, 104, 101, 114]⟩ 0 30 (by omega) (by omega) rfl (fun W hW => par_1 st x 30 W E1' rfl)
  rw [hb] at E1'
  rcases Bool.eq_false_or_eq_true (x.k == 2054) with q | q
  · rcases Bool.eq_false_or_eq_true (Eth.Arp.decA x.d) with ha | ha
    · refine ⟨.ok (⟨1, x, ⟨Eth.Arp.aO x.d, Eth.Arp.aFm x.d, Eth.Arp.aFi x.d, Eth.Arp.aTm x.d, Eth.Arp.aTi x.d⟩, PkT.zero, IcT.zero, Sg.zero⟩ : Pd), fun W hW => ?_, Nat.zero_le _, fun z e h4 => (by injection e with e; subst e; exact absurd h4 (by show ¬ (1 : Int) = 4; decide))⟩
      exact par_3 st x (⟨1, FrT.zero, ⟨Eth.Arp.aO x.d, Eth.Arp.aFm x.d, Eth.Arp.aFi x.d, Eth.Arp.aTm x.d, Eth.Arp.aTi x.d⟩, PkT.zero, IcT.zero, Sg.zero⟩ : Pd) (⟨1, x, ⟨Eth.Arp.aO x.d, Eth.Arp.aFm x.d, Eth.Arp.aFi x.d, Eth.Arp.aTm x.d, Eth.Arp.aTi x.d⟩, PkT.zero, IcT.zero, Sg.zero⟩ : Pd) W rfl rfl hW E1' (fun W hW => con_2 x ⟨Eth.Arp.aO x.d, Eth.Arp.aFm x.d, Eth.Arp.aFi x.d, Eth.Arp.aTm x.d, Eth.Arp.aTi x.d⟩ W q (fun W => Eth.Arp.dec_y ha W))
    · have hm : x.d.size ≤ maxLen := by unfold maxLen; omega
      exact ER ⟨#[97, 114, 112]⟩ 14 40 (by omega) (by omega) rfl (fun W hW => par_2 st x ⟨#[97, 114, 112]⟩ 14 40 W hW E1' (fun W hW => con_1 x ArT.zero 40 W q (fun W => Eth.Arp.dec_n ha W hm) rfl))
  · rcases Bool.eq_false_or_eq_true (x.k == 2048) with q2 | q2
    case inr => exact ER ⟨#[101, 116, 104, 101, 114]⟩ 0 90 (by omega) (by omega) rfl (fun W hW => par_2 st x ⟨#[101, 116, 104, 101, 114]⟩ 0 90 W hW E1' (fun W hW => con_6 x W q q2))
    obtain ⟨y, c, I1, hy⟩ := ip_prog x.d (by omega)
    rcases hy with ⟨rfl, hmp, hop, hda⟩ | hc
    · obtain ⟨r, N1, hr, hsm2, htc⟩ := inn_prog y (by omega) (by omega)
      cases r with
      | error t =>
        obtain ⟨l, a, c⟩ := t
        obtain ⟨ha0, ha1, hc⟩ : 0 ≤ a ∧ a ≤ 140737488355362 ∧ (c != 0) = true := hr
        have ha3 : a ≤ 20 + (y.op.size : Int) := hsm2 _ rfl
        exact ER l (a + 14) c (by omega) (by omega) hc (fun W hW => par_2 st x l (a + 14) c W hW E1' (fun W hW => con_4 x y l a c W hW HF q q2 I1 N1 ha0 (by omega)))
      | ok z =>
        refine ⟨.ok ({ z with fr := x } : Pd), fun W hW => ?_, hr, fun z' e h4 => ?_⟩
        · exact par_3 st x z ({ z with fr := x } : Pd) W rfl rfl hW E1' (fun W hW => con_5 x y z W hW HN q q2 I1 N1)
        · injection e with e
          subst e
          have ht := htc z rfl h4
          refine ⟨y, ⟨ht.1, ht.2.1, ht.2.2⟩, hb, hx, ?_, ?_⟩
          · rw [hx] at q2; exact q2
          · rw [hx] at hda; exact hda
    · exact ER ⟨#[105, 112]⟩ 14 c (by omega) (by omega) hc (fun W hW => par_2 st x ⟨#[105, 112]⟩ 14 c W hW E1' (fun W hW => con_3 x y c W q q2 I1 hc))
theorem par_inn (x : FrT) (y : PkT) (z : Pd) (hm : Ip.mayP y.f y.t y.tl y.pr y.id y.fg y.mo y.op.size y.da.size = true) (hk : Eth.mayB x.a x.b 2048 (Ip.encP y.f y.t y.tl y.pr y.id y.fg y.mo y.dn y.op y.da).size = true) (HN : ShNil)
    (N1 : ∀ W, OrE W → Calls Tryz.prog 30 #[.agg #[.int .i64 y.f, .int .i64 y.t, .int .i64 y.tl, .int .i64 y.pr, .int .i64 y.id, .int .i64 y.fg, .bool y.mo, .bool y.dn, .string y.op, .string y.da]] W fun e w' => InnP (.ok z) W e w') :
    ∀ W, OrE W → Calls Tryz.prog 5 #[.string (Eth.encS x.a x.b 2048 (Ip.encP y.f y.t y.tl y.pr y.id y.fg y.mo y.dn y.op y.da))] W fun e w' => InnP (.ok { z with fr := (⟨x.a, x.b, 2048, (Ip.encP y.f y.t y.tl y.pr y.id y.fg y.mo y.dn y.op y.da)⟩ : FrT) }) W e w' := by
  have hz : (Ip.encP y.f y.t y.tl y.pr y.id y.fg y.mo y.dn y.op y.da).size ≤ 65535 := Ip.encP_le hm
  have hes : ((Eth.encS x.a x.b 2048 (Ip.encP y.f y.t y.tl y.pr y.id y.fg y.mo y.dn y.op y.da))).size = 14 + (Ip.encP y.f y.t y.tl y.pr y.id y.fg y.mo y.dn y.op y.da).size := Eth.enc_size _ _ _ _
  have hsm : ((Eth.encS x.a x.b 2048 (Ip.encP y.f y.t y.tl y.pr y.id y.fg y.mo y.dn y.op y.da))).size ≤ maxLen := by unfold maxLen; omega
  have E1 := fun W => Eth.dec_any (Eth.encS x.a x.b 2048 (Ip.encP y.f y.t y.tl y.pr y.id y.fg y.mo y.dn y.op y.da)) W hsm
  obtain ⟨e1, e2, e3, e4, e5⟩ := Eth.dec_of_enc hk
  rw [e1, e2, e3, e4, e5] at E1
  have I1 := fun W => Ip.dec_back hm ⟨#[]⟩ (dn := y.dn) W (by rw [app_nil]; omega)
  rw [app_nil] at I1
  exact fun W hW => par_3 (Eth.encS x.a x.b 2048 (Ip.encP y.f y.t y.tl y.pr y.id y.fg y.mo y.dn y.op y.da)) (⟨x.a, x.b, 2048, (Ip.encP y.f y.t y.tl y.pr y.id y.fg y.mo y.dn y.op y.da)⟩ : FrT) z _ W rfl rfl hW E1 (fun W hW => con_5 (⟨x.a, x.b, 2048, (Ip.encP y.f y.t y.tl y.pr y.id y.fg y.mo y.dn y.op y.da)⟩ : FrT) y z W hW HN rfl rfl I1 N1)
theorem again_all (st : ByteArray) (z : Pd) (HN : ShNil) (h : Tcp st z) : ∃ b C E : ByteArray,
    (∀ W v, Rgs W v z.sg.o.rs → OrE W → Calls Tryz.prog 6 #[.int .i64 z.pk.f, .int .i64 z.pk.t, .agg #[.int .i64 z.sg.fr, .int .i64 z.sg.dt, .int .i64 z.sg.sq, .int .i64 z.sg.ak, .int .i64 z.sg.fl, .int .i64 z.sg.wi, .int .i64 z.sg.ur, .int .i64 z.sg.o.m, .int .i64 z.sg.o.c, .int .i64 z.sg.o.t, .int .i64 z.sg.o.ec, .bool z.sg.o.sd, .bool z.sg.o.ok, .bool z.sg.o.sp, v, .string z.sg.da]] W fun e w' => e = .returned (.tuple #[.string b, .int .i64 0]) ∧ Below W.heap.size W w') ∧
    (∀ W, Calls Tryz.prog 7 #[.agg #[.int .i64 z.pk.f, .int .i64 z.pk.t, .int .i64 z.pk.tl, .int .i64 z.pk.pr, .int .i64 z.pk.id, .int .i64 z.pk.fg, .bool z.pk.mo, .bool z.pk.dn, .string z.pk.op, .string b]] W fun e w' => e = .returned (.tuple #[.string C, .int .i64 0]) ∧ Below W.heap.size W w') ∧
    (∀ W, Calls Tryz.prog 8 #[.agg #[.int .i64 z.fr.a, .int .i64 z.fr.b, .int .i64 z.fr.k, .string C]] W fun e w' => e = .returned (.tuple #[.string E, .int .i64 0]) ∧ Below W.heap.size W w') ∧
    E.size ≤ st.size ∧
    ∃ fr : FrT, ∀ W, OrE W → Calls Tryz.prog 5 #[.string E] W fun e w' => InnP (.ok ⟨4, fr, ArT.zero, ⟨z.pk.f, z.pk.t, z.pk.tl, z.pk.pr, z.pk.id, z.pk.fg, z.pk.mo, z.pk.dn, z.pk.op, b⟩, IcT.zero, z.sg⟩) W e w' := by
  obtain ⟨y, ⟨⟨hmp, hwh, h6⟩, hdec, hpk⟩, hb, hfr, hk, hsz⟩ := h
  have hmg := decG_may hdec
  have hnum : (numB y.f && numB y.t) = true := by
    unfold decG at hdec
    split at hdec
    · rename_i hn; exact hn
    · cases hdec
  have hlen := again_len hdec
  have hback : decG y.f y.t (encS y.f y.t z.sg) = .ok z.sg := back_ok hmg hnum
  have HS := fun W v (hv : Rgs W v z.sg.o.rs) (hG : OrE W) => encs_y y.f y.t z.sg v W hv hG.1 hnum hmg
  obtain ⟨b, hbe⟩ : ∃ b, b = encS y.f y.t z.sg := ⟨_, rfl⟩
  rw [← hbe] at HS hback hlen
  clear hbe
  have hfm : y.fg = 0 ∧ y.mo = false := by
    have := hwh
    unfold Ip.wholeB at this
    simpa using this
  have hmp2 : Ip.mayP y.f y.t y.tl y.pr y.id y.fg y.mo y.op.size b.size = true := by
    have hq := Ip.mayP_q hmp
    refine Ip.mayP_t ?_
    unfold Ip.mayQ at hq ⊢
    obtain ⟨a1, a2, a3, a4, a5, a6, a7, a8, a9, a10, a11⟩ := hq
    refine ⟨a1, a2, a3, a4, a5, a6, a7, a8, fun hm => (by rw [hfm.2] at hm; cases hm), by omega, by omega⟩
  have HI := fun W => Ip.enc_y (dn := y.dn) hmp2 W
  have hcs : (Ip.encP y.f y.t y.tl y.pr y.id y.fg y.mo y.dn y.op b).size = 20 + y.op.size + b.size := Ip.encP_size _ _ _ _ _ _ _ _ _ _
  have hmb := (Eth.enc_of_dec hb).1
  have hkk : Eth.deK st = 2048 := by simpa using hk
  rw [hkk] at hmb
  have hmb2 : Eth.mayB (Eth.deT st) (Eth.deF st) 2048 (Ip.encP y.f y.t y.tl y.pr y.id y.fg y.mo y.dn y.op b).size = true := by
    unfold Eth.mayB at hmb ⊢
    have := of_decide_eq_true hmb
    refine decide_eq_true ⟨this.1, this.2.1, this.2.2.1, this.2.2.2.1, ?_⟩
    have := this.2.2.2.2
    omega
  have hz : (Ip.encP y.f y.t y.tl y.pr y.id y.fg y.mo y.dn y.op b).size ≤ 65535 := Ip.encP_le hmp2
  have HE := fun W => Eth.enc_any (Eth.deT st) (Eth.deF st) 2048 (Ip.encP y.f y.t y.tl y.pr y.id y.fg y.mo y.dn y.op b) W (by unfold maxLen; omega)
  rw [hmb2, show Eth.encV (Eth.deT st) (Eth.deF st) 2048 (Ip.encP y.f y.t y.tl y.pr y.id y.fg y.mo y.dn y.op b) = Eth.encS (Eth.deT st) (Eth.deF st) 2048 (Ip.encP y.f y.t y.tl y.pr y.id y.fg y.mo y.dn y.op b) by unfold Eth.encV; rw [if_pos hmb2]] at HE
  have hst : (Eth.deD st).size + 14 ≤ st.size := by
    have h14 : 14 ≤ st.size := by
      unfold Eth.decB at hb
      split at hb
      · assumption
      · cases hb
    unfold Eth.deD
    rw [if_pos hb, Eth.dD_size]
    omega
  have h1 : y.op.size ≤ 1125899906842624 := by omega
  have hbz : b.size ≤ 65535 := by omega
  have h2 : b.size ≤ 1125899906842624 := by omega
  have e20 : IntKind.i64.wrap (20 + (y.op.size : Int)) = 20 + (y.op.size : Int) := by rw [IntKind.wrap_i64]; omega
  obtain ⟨-, -, -, -, -, -, -, hso, -⟩ := may_all hmg
  have D1 := fun W (hW : OrE W) => decs_any y.f y.t b W hW.1 (by omega)
  rw [hback] at D1
  have q1 : (y.pr == 1) = false := by
    have : y.pr = 6 := by simpa using h6
    rw [this]
    rfl
  have W1 := fun W => Ip.whl_any y.f y.t y.tl y.pr y.id y.fg y.mo y.dn y.op b W
  rw [hwh] at W1
  have N1 : ∀ W, OrE W → Calls Tryz.prog 30 #[.agg #[.int .i64 y.f, .int .i64 y.t, .int .i64 y.tl, .int .i64 y.pr, .int .i64 y.id, .int .i64 y.fg, .bool y.mo, .bool y.dn, .string y.op, .string b]] W fun e w' => InnP (.ok ⟨4, FrT.zero, ArT.zero, ⟨y.f, y.t, y.tl, y.pr, y.id, y.fg, y.mo, y.dn, y.op, b⟩, IcT.zero, z.sg⟩) W e w' := fun W hW => inn_7 ⟨y.f, y.t, y.tl, y.pr, y.id, y.fg, y.mo, y.dn, y.op, b⟩ z.sg W hW (fun W => Ip.chk_t (dn := y.dn) hmp2 W h1 h2) W1 e20 (by show y.op.size ≤ _; omega) q1 h6 D1
  have P1 := par_inn ⟨Eth.deT st, Eth.deF st, 2048, ⟨#[]⟩⟩ ⟨y.f, y.t, y.tl, y.pr, y.id, y.fg, y.mo, y.dn, y.op, b⟩ _ hmp2 hmb2 HN N1
  rw [hpk, hfr]
  refine ⟨b, _, _, HS, HI, ?_, ?_, _, P1⟩
  · rw [hkk]; exact HE
  · rw [Eth.enc_size, hcs]; omega
end Go.Proofs.YtkpdmgoldngdaabGreatDoor

namespace Go.Proofs.YtkpdmgoldngdaabGreatDoor
open Go.RowKit
set_option maxRecDepth 100000
set_option linter.unusedVariables false

theorem shNil : ShNil := fun b W => shift_nil b W
theorem shFail14 : ShFail 14 := fun W p l a c hG ha0 ha1 hA => shift_fail p l a c 14 W hG.2 hA ha0 ha1 (by omega) (by omega)
theorem At.sub {W : World} {b : Nat} {vs : Array Value} (h : At W b vs) (o n : Nat) : W.rangeAt b o ((vs.toList.drop o).take n) := fun i u hi => by
  rw [List.getElem?_take] at hi
  split at hi
  · rw [List.getElem?_drop] at hi
    exact (h.2 (o + i) u (by simpa using hi)).1
  · cases hi
theorem At.p10 {W : World} {b : Nat} {z : Pd} {v : Value} (h : At W b (z.v v)) : W.rangeAt b 10 [.int .i64 z.pk.f, .int .i64 z.pk.t, .int .i64 z.pk.tl, .int .i64 z.pk.pr, .int .i64 z.pk.id, .int .i64 z.pk.fg, .bool z.pk.mo, .bool z.pk.dn, .string z.pk.op, .string z.pk.da] := h.sub 10 10
theorem At.p25 {W : World} {b : Nat} {z : Pd} {v : Value} (h : At W b (z.v v)) : W.rangeAt b 25 [.int .i64 z.sg.fr, .int .i64 z.sg.dt, .int .i64 z.sg.sq, .int .i64 z.sg.ak, .int .i64 z.sg.fl, .int .i64 z.sg.wi, .int .i64 z.sg.ur, .int .i64 z.sg.o.m, .int .i64 z.sg.o.c, .int .i64 z.sg.o.t, .int .i64 z.sg.o.ec, .bool z.sg.o.sd, .bool z.sg.o.ok, .bool z.sg.o.sp, v, .string z.sg.da] := h.sub 25 16
theorem par_empty (w : World) : Calls Tryz.prog 5 #[.string ⟨#[]⟩] w fun e w' => ∃ p, e = .returned (.tuple #[.agg PZ, .iface 70 (.pointer (some ⟨p, 0, none⟩))]) ∧ w.heap.size ≤ p ∧ At w' p (FailV ⟨#[101, 116, 104, 101, 114]⟩ 0 30) ∧ Below w.heap.size w w' :=
  par_1 ⟨#[]⟩ FrT.zero 30 w (fun W => Eth.dec_any ⟨#[]⟩ W (Nat.zero_le _)) rfl
set_option maxHeartbeats 4000000 in
theorem reads_p (w : World) (hG : OrE w) : Calls Tryz.prog 4 #[] w fun e w' => e = .returned (.bool true) ∧ Below w.heap.size w w' := by
  go_enter Tryz.func4, Tryz.ntmps4
  go_upto_region 1 with fail
  go_cut [1, 2] from 3 (fun q y W => ∃ (B6 p : Nat), q = .pointer (some ⟨B6, 0, none⟩) ∧ y = .iface 70 (.pointer (some ⟨p, 0, none⟩)) ∧ Below w.heap.size w W ∧ At W p (FailV ⟨#[101, 116, 104, 101, 114]⟩ 0 30))
  case first =>
    go_wp2_with fail
    refine (par_empty _).mono ?_
    rintro e w5 ⟨p, rfl, hp, hP, hb⟩
    have hX0 : At (w5.alloc (.cells #[.int .i64 0, .int .i64 0, .int .i64 0, .int .i64 0, .string ⟨#[]⟩, .int .i64 0, .int .i64 0, .int .i64 0, .int .i64 0, .int .i64 0, .int .i64 0, .int .i64 0, .int .i64 0, .int .i64 0, .int .i64 0, .int .i64 0, .bool false, .bool false, .string ⟨#[]⟩, .string ⟨#[]⟩, .int .i64 0, .int .i64 0, .int .i64 0, .int .i64 0, .string ⟨#[]⟩, .int .i64 0, .int .i64 0, .int .i64 0, .int .i64 0, .int .i64 0, .int .i64 0, .int .i64 0, .int .i64 0, .int .i64 0, .int .i64 0, .int .i64 0, .bool false, .bool false, .bool false, .slice none 0 0, .string ⟨#[]⟩] 37)) w5.heap.size PZ := At.box w5 #[.int .i64 0, .int .i64 0, .int .i64 0, .int .i64 0, .string ⟨#[]⟩, .int .i64 0, .int .i64 0, .int .i64 0, .int .i64 0, .int .i64 0, .int .i64 0, .int .i64 0, .int .i64 0, .int .i64 0, .int .i64 0, .int .i64 0, .bool false, .bool false, .string ⟨#[]⟩, .string ⟨#[]⟩, .int .i64 0, .int .i64 0, .int .i64 0, .int .i64 0, .string ⟨#[]⟩, .int .i64 0, .int .i64 0, .int .i64 0, .int .i64 0, .int .i64 0, .int .i64 0, .int .i64 0, .int .i64 0, .int .i64 0, .int .i64 0, .int .i64 0, .bool false, .bool false, .bool false, .slice none 0 0, .string ⟨#[]⟩] 37
    have hbx : Below w5.heap.size w5 ((w5.alloc (.cells #[.int .i64 0, .int .i64 0, .int .i64 0, .int .i64 0, .string ⟨#[]⟩, .int .i64 0, .int .i64 0, .int .i64 0, .int .i64 0, .int .i64 0, .int .i64 0, .int .i64 0, .int .i64 0, .int .i64 0, .int .i64 0, .int .i64 0, .bool false, .bool false, .string ⟨#[]⟩, .string ⟨#[]⟩, .int .i64 0, .int .i64 0, .int .i64 0, .int .i64 0, .string ⟨#[]⟩, .int .i64 0, .int .i64 0, .int .i64 0, .int .i64 0, .int .i64 0, .int .i64 0, .int .i64 0, .int .i64 0, .int .i64 0, .int .i64 0, .int .i64 0, .bool false, .bool false, .bool false, .slice none 0 0, .string ⟨#[]⟩] 37)).setCells w5.heap.size 0 (PZ).toList) := Below.setCells (Nat.le_refl _) _ _ _ (bel1 w5 (.cells #[.int .i64 0, .int .i64 0, .int .i64 0, .int .i64 0, .string ⟨#[]⟩, .int .i64 0, .int .i64 0, .int .i64 0, .int .i64 0, .int .i64 0, .int .i64 0, .int .i64 0, .int .i64 0, .int .i64 0, .int .i64 0, .int .i64 0, .bool false, .bool false, .string ⟨#[]⟩, .string ⟨#[]⟩, .int .i64 0, .int .i64 0, .int .i64 0, .int .i64 0, .string ⟨#[]⟩, .int .i64 0, .int .i64 0, .int .i64 0, .int .i64 0, .int .i64 0, .int .i64 0, .int .i64 0, .int .i64 0, .int .i64 0, .int .i64 0, .int .i64 0, .bool false, .bool false, .bool false, .slice none 0 0, .string ⟨#[]⟩] 37))
    have hX : At ((w5.alloc (.cells #[.int .i64 0, .int .i64 0, .int .i64 0, .int .i64 0, .string ⟨#[]⟩, .int .i64 0, .int .i64 0, .int .i64 0, .int .i64 0, .int .i64 0, .int .i64 0, .int .i64 0, .int .i64 0, .int .i64 0, .int .i64 0, .int .i64 0, .bool false, .bool false, .string ⟨#[]⟩, .string ⟨#[]⟩, .int .i64 0, .int .i64 0, .int .i64 0, .int .i64 0, .string ⟨#[]⟩, .int .i64 0, .int .i64 0, .int .i64 0, .int .i64 0, .int .i64 0, .int .i64 0, .int .i64 0, .int .i64 0, .int .i64 0, .int .i64 0, .int .i64 0, .bool false, .bool false, .bool false, .slice none 0 0, .string ⟨#[]⟩] 37)).setCells w5.heap.size 0 (PZ).toList) w5.heap.size (PZ) := At.whole (vs := PZ) hX0 rfl
    go_wp2_with (refine wpList_store_mid (by rfl) 37 _ _ (by rfl) (w5.heap.size) 0 (PZ) (by rfl) (by rfl) hX0.there size36 PZ_one ?_)
    go_wp2
    go_meet
    case rel => exact ⟨w5.heap.size, p, rfl, rfl, bt hb hbx, hP.later hbx⟩
  case rest =>
  obtain ⟨B6, p, rfl, rfl, hl, hP⟩ := hcut
  obtain ⟨w4, hw4⟩ : ∃ x, x = wc := ⟨wc, rfl⟩
  subst hw4
  go_wp2_with fail
  refine (is_fail p _ _ _ 30 _ (hG.2.later hl) hP).mono ?_
  rintro e w6 ⟨rfl, hb⟩
  go_wp2
  go_ret
  exact ⟨rfl, bt hl hb⟩
set_option maxHeartbeats 4000000 in
theorem ta_e (st : ByteArray) (l : ByteArray) (a c : Int) (w : World) (hG : OrE w)
    (HP : Hid (∀ W, OrE W → Calls Tryz.prog 5 #[.string st] W fun e w' => ∃ p, e = .returned (.tuple #[.agg PZ, .iface 70 (.pointer (some ⟨p, 0, none⟩))]) ∧ W.heap.size ≤ p ∧ At w' p (FailV l a c) ∧ Below W.heap.size W w')) :
    Calls Tryz.prog 3 #[.string st] w fun e w' => e = .returned (.bool true) ∧ Below w.heap.size w w' := by
  go_enter Tryz.func3, Tryz.ntmps3
  go_wp2_with fail
  refine (reads_p _ hG).mono ?_
  rintro e w1 ⟨rfl, hl⟩
  go_upto_region 3 with fail
  go_cut [3, 4] from 13 (fun q y W => ∃ (B6 p : Nat), q = .pointer (some ⟨B6, 0, none⟩) ∧ y = .iface 70 (.pointer (some ⟨p, 0, none⟩)) ∧ Below w.heap.size w W)
  case first =>
    go_wp2_with fail
    refine (HP.out _ (hG.later hl)).mono ?_
    rintro e w5 ⟨p, rfl, hp, hP, hb⟩
    have hX0 : At (w5.alloc (.cells #[.int .i64 0, .int .i64 0, .int .i64 0, .int .i64 0, .string ⟨#[]⟩, .int .i64 0, .int .i64 0, .int .i64 0, .int .i64 0, .int .i64 0, .int .i64 0, .int .i64 0, .int .i64 0, .int .i64 0, .int .i64 0, .int .i64 0, .bool false, .bool false, .string ⟨#[]⟩, .string ⟨#[]⟩, .int .i64 0, .int .i64 0, .int .i64 0, .int .i64 0, .string ⟨#[]⟩, .int .i64 0, .int .i64 0, .int .i64 0, .int .i64 0, .int .i64 0, .int .i64 0, .int .i64 0, .int .i64 0, .int .i64 0, .int .i64 0, .int .i64 0, .bool false, .bool false, .bool false, .slice none 0 0, .string ⟨#[]⟩] 37)) w5.heap.size PZ := At.box w5 #[.int .i64 0, .int .i64 0, .int .i64 0, .int .i64 0, .string ⟨#[]⟩, .int .i64 0, .int .i64 0, .int .i64 0, .int .i64 0, .int .i64 0, .int .i64 0, .int .i64 0, .int .i64 0, .int .i64 0, .int .i64 0, .int .i64 0, .bool false, .bool false, .string ⟨#[]⟩, .string ⟨#[]⟩, .int .i64 0, .int .i64 0, .int .i64 0, .int .i64 0, .string ⟨#[]⟩, .int .i64 0, .int .i64 0, .int .i64 0, .int .i64 0, .int .i64 0, .int .i64 0, .int .i64 0, .int .i64 0, .int .i64 0, .int .i64 0, .int .i64 0, .bool false, .bool false, .bool false, .slice none 0 0, .string ⟨#[]⟩] 37
    have hbx : Below w5.heap.size w5 ((w5.alloc (.cells #[.int .i64 0, .int .i64 0, .int .i64 0, .int .i64 0, .string ⟨#[]⟩, .int .i64 0, .int .i64 0, .int .i64 0, .int .i64 0, .int .i64 0, .int .i64 0, .int .i64 0, .int .i64 0, .int .i64 0, .int .i64 0, .int .i64 0, .bool false, .bool false, .string ⟨#[]⟩, .string ⟨#[]⟩, .int .i64 0, .int .i64 0, .int .i64 0, .int .i64 0, .string ⟨#[]⟩, .int .i64 0, .int .i64 0, .int .i64 0, .int .i64 0, .int .i64 0, .int .i64 0, .int .i64 0, .int .i64 0, .int .i64 0, .int .i64 0, .int .i64 0, .bool false, .bool false, .bool false, .slice none 0 0, .string ⟨#[]⟩] 37)).setCells w5.heap.size 0 (PZ).toList) := Below.setCells (Nat.le_refl _) _ _ _ (bel1 w5 (.cells #[.int .i64 0, .int .i64 0, .int .i64 0, .int .i64 0, .string ⟨#[]⟩, .int .i64 0, .int .i64 0, .int .i64 0, .int .i64 0, .int .i64 0, .int .i64 0, .int .i64 0, .int .i64 0, .int .i64 0, .int .i64 0, .int .i64 0, .bool false, .bool false, .string ⟨#[]⟩, .string ⟨#[]⟩, .int .i64 0, .int .i64 0, .int .i64 0, .int .i64 0, .string ⟨#[]⟩, .int .i64 0, .int .i64 0, .int .i64 0, .int .i64 0, .int .i64 0, .int .i64 0, .int .i64 0, .int .i64 0, .int .i64 0, .int .i64 0, .int .i64 0, .bool false, .bool false, .bool false, .slice none 0 0, .string ⟨#[]⟩] 37))
    have hX : At ((w5.alloc (.cells #[.int .i64 0, .int .i64 0, .int .i64 0, .int .i64 0, .string ⟨#[]⟩, .int .i64 0, .int .i64 0, .int .i64 0, .int .i64 0, .int .i64 0, .int .i64 0, .int .i64 0, .int .i64 0, .int .i64 0, .int .i64 0, .int .i64 0, .bool false, .bool false, .string ⟨#[]⟩, .string ⟨#[]⟩, .int .i64 0, .int .i64 0, .int .i64 0, .int .i64 0, .string ⟨#[]⟩, .int .i64 0, .int .i64 0, .int .i64 0, .int .i64 0, .int .i64 0, .int .i64 0, .int .i64 0, .int .i64 0, .int .i64 0, .int .i64 0, .int .i64 0, .bool false, .bool false, .bool false, .slice none 0 0, .string ⟨#[]⟩] 37)).setCells w5.heap.size 0 (PZ).toList) w5.heap.size (PZ) := At.whole (vs := PZ) hX0 rfl
    go_wp2_with (refine wpList_store_mid (by rfl) 37 _ _ (by rfl) (w5.heap.size) 0 (PZ) (by rfl) (by rfl) hX0.there size36 PZ_one ?_)
    go_wp2
    go_meet
    case rel => exact ⟨w5.heap.size, p, rfl, rfl, bt hl (bt hb hbx)⟩
  case rest =>
  obtain ⟨B6, p, rfl, rfl, hl2⟩ := hcut
  go_wp2
  go_ret
  exact ⟨rfl, hl2⟩
set_option maxHeartbeats 4000000 in
theorem ta_k (st : ByteArray) (z : Pd) (w : World) (hG : OrE w) (hk : (z.k != 4) = true)
    (HP : Hid (∀ W, OrE W → Calls Tryz.prog 5 #[.string st] W fun e w' => ∃ v, e = .returned (.tuple #[.agg (z.v v), .nilIface]) ∧ RgA W.heap.size w' v z.sg.o.rs ∧ Below W.heap.size W w')) :
    Calls Tryz.prog 3 #[.string st] w fun e w' => e = .returned (.bool true) ∧ Below w.heap.size w w' := by
  go_enter Tryz.func3, Tryz.ntmps3
  go_wp2_with fail
  refine (reads_p _ hG).mono ?_
  rintro e w1 ⟨rfl, hl⟩
  go_upto_region 3 with fail
  go_cut [3, 4] from 13 (fun q y W => ∃ (B6 : Nat), q = .pointer (some ⟨B6, 0, none⟩) ∧ y = .nilIface ∧ Below w.heap.size w W ∧ W.cell? ⟨B6, 0, none⟩ = some (.int .i64 z.k))
  case first =>
    go_wp2_with fail
    refine (HP.out _ (hG.later hl)).mono ?_
    rintro e w5 ⟨v, rfl, hv, hb⟩
    obtain ⟨a0, cap0, hve, -⟩ := id hv
    subst hve
    have hX0 : At (w5.alloc (.cells #[.int .i64 0, .int .i64 0, .int .i64 0, .int .i64 0, .string ⟨#[]⟩, .int .i64 0, .int .i64 0, .int .i64 0, .int .i64 0, .int .i64 0, .int .i64 0, .int .i64 0, .int .i64 0, .int .i64 0, .int .i64 0, .int .i64 0, .bool false, .bool false, .string ⟨#[]⟩, .string ⟨#[]⟩, .int .i64 0, .int .i64 0, .int .i64 0, .int .i64 0, .string ⟨#[]⟩, .int .i64 0, .int .i64 0, .int .i64 0, .int .i64 0, .int .i64 0, .int .i64 0, .int .i64 0, .int .i64 0, .int .i64 0, .int .i64 0, .int .i64 0, .bool false, .bool false, .bool false, .slice none 0 0, .string ⟨#[]⟩] 37)) w5.heap.size PZ := At.box w5 #[.int .i64 0, .int .i64 0, .int .i64 0, .int .i64 0, .string ⟨#[]⟩, .int .i64 0, .int .i64 0, .int .i64 0, .int .i64 0, .int .i64 0, .int .i64 0, .int .i64 0, .int .i64 0, .int .i64 0, .int .i64 0, .int .i64 0, .bool false, .bool false, .string ⟨#[]⟩, .string ⟨#[]⟩, .int .i64 0, .int .i64 0, .int .i64 0, .int .i64 0, .string ⟨#[]⟩, .int .i64 0, .int .i64 0, .int .i64 0, .int .i64 0, .int .i64 0, .int .i64 0, .int .i64 0, .int .i64 0, .int .i64 0, .int .i64 0, .int .i64 0, .bool false, .bool false, .bool false, .slice none 0 0, .string ⟨#[]⟩] 37
    have hbx : Below w5.heap.size w5 ((w5.alloc (.cells #[.int .i64 0, .int .i64 0, .int .i64 0, .int .i64 0, .string ⟨#[]⟩, .int .i64 0, .int .i64 0, .int .i64 0, .int .i64 0, .int .i64 0, .int .i64 0, .int .i64 0, .int .i64 0, .int .i64 0, .int .i64 0, .int .i64 0, .bool false, .bool false, .string ⟨#[]⟩, .string ⟨#[]⟩, .int .i64 0, .int .i64 0, .int .i64 0, .int .i64 0, .string ⟨#[]⟩, .int .i64 0, .int .i64 0, .int .i64 0, .int .i64 0, .int .i64 0, .int .i64 0, .int .i64 0, .int .i64 0, .int .i64 0, .int .i64 0, .int .i64 0, .bool false, .bool false, .bool false, .slice none 0 0, .string ⟨#[]⟩] 37)).setCells w5.heap.size 0 (z.v (.slice a0 z.sg.o.rs.length cap0)).toList) := Below.setCells (Nat.le_refl _) _ _ _ (bel1 w5 (.cells #[.int .i64 0, .int .i64 0, .int .i64 0, .int .i64 0, .string ⟨#[]⟩, .int .i64 0, .int .i64 0, .int .i64 0, .int .i64 0, .int .i64 0, .int .i64 0, .int .i64 0, .int .i64 0, .int .i64 0, .int .i64 0, .int .i64 0, .bool false, .bool false, .string ⟨#[]⟩, .string ⟨#[]⟩, .int .i64 0, .int .i64 0, .int .i64 0, .int .i64 0, .string ⟨#[]⟩, .int .i64 0, .int .i64 0, .int .i64 0, .int .i64 0, .int .i64 0, .int .i64 0, .int .i64 0, .int .i64 0, .int .i64 0, .int .i64 0, .int .i64 0, .bool false, .bool false, .bool false, .slice none 0 0, .string ⟨#[]⟩] 37))
    have hX : At ((w5.alloc (.cells #[.int .i64 0, .int .i64 0, .int .i64 0, .int .i64 0, .string ⟨#[]⟩, .int .i64 0, .int .i64 0, .int .i64 0, .int .i64 0, .int .i64 0, .int .i64 0, .int .i64 0, .int .i64 0, .int .i64 0, .int .i64 0, .int .i64 0, .bool false, .bool false, .string ⟨#[]⟩, .string ⟨#[]⟩, .int .i64 0, .int .i64 0, .int .i64 0, .int .i64 0, .string ⟨#[]⟩, .int .i64 0, .int .i64 0, .int .i64 0, .int .i64 0, .int .i64 0, .int .i64 0, .int .i64 0, .int .i64 0, .int .i64 0, .int .i64 0, .int .i64 0, .bool false, .bool false, .bool false, .slice none 0 0, .string ⟨#[]⟩] 37)).setCells w5.heap.size 0 (z.v (.slice a0 z.sg.o.rs.length cap0)).toList) w5.heap.size (z.v (.slice a0 z.sg.o.rs.length cap0)) := At.whole (vs := z.v (.slice a0 z.sg.o.rs.length cap0)) hX0 rfl
    go_wp2_with (refine wpList_store_mid (by rfl) 37 _ _ (by rfl) (w5.heap.size) 0 (z.v (.slice a0 z.sg.o.rs.length cap0)) (by rfl) (by rfl) hX0.there size36 (Pd.one _ rfl) ?_)
    go_wp2
    go_meet
    case rel => exact ⟨w5.heap.size, rfl, rfl, bt hl (bt hb hbx), (hX.2 0 _ rfl).1⟩
  case rest =>
  obtain ⟨B6, rfl, rfl, hl2, c0⟩ := hcut
  go_wp2
  go_ret
  exact ⟨rfl, hl2⟩
set_option maxHeartbeats 8000000 in
theorem ta_y (st b C E : ByteArray) (z z2 : Pd) (w : World) (hG : OrE w) (hk : (z.k != 4) = false) (hn : z.sg.o.rs.length ≤ 4) (hE : E.size ≤ st.size) (hs : st.size ≤ 140737488351232)
    (HP : Hid (∀ W, OrE W → Calls Tryz.prog 5 #[.string st] W fun e w' => ∃ v, e = .returned (.tuple #[.agg (z.v v), .nilIface]) ∧ RgA W.heap.size w' v z.sg.o.rs ∧ Below W.heap.size W w'))
    (HS : Hid (∀ W v, Rgs W v z.sg.o.rs → OrE W → Calls Tryz.prog 6 #[.int .i64 z.pk.f, .int .i64 z.pk.t, .agg #[.int .i64 z.sg.fr, .int .i64 z.sg.dt, .int .i64 z.sg.sq, .int .i64 z.sg.ak, .int .i64 z.sg.fl, .int .i64 z.sg.wi, .int .i64 z.sg.ur, .int .i64 z.sg.o.m, .int .i64 z.sg.o.c, .int .i64 z.sg.o.t, .int .i64 z.sg.o.ec, .bool z.sg.o.sd, .bool z.sg.o.ok, .bool z.sg.o.sp, v, .string z.sg.da]] W fun e w' => e = .returned (.tuple #[.string b, .int .i64 0]) ∧ Below W.heap.size W w'))
    (HI : Hid (∀ W, Calls Tryz.prog 7 #[.agg #[.int .i64 z.pk.f, .int .i64 z.pk.t, .int .i64 z.pk.tl, .int .i64 z.pk.pr, .int .i64 z.pk.id, .int .i64 z.pk.fg, .bool z.pk.mo, .bool z.pk.dn, .string z.pk.op, .string b]] W fun e w' => e = .returned (.tuple #[.string C, .int .i64 0]) ∧ Below W.heap.size W w'))
    (HE : Hid (∀ W, Calls Tryz.prog 8 #[.agg #[.int .i64 z.fr.a, .int .i64 z.fr.b, .int .i64 z.fr.k, .string C]] W fun e w' => e = .returned (.tuple #[.string E, .int .i64 0]) ∧ Below W.heap.size W w'))
    (h2 : Hid ((z2.k == 4) = true ∧ z2.sg = z.sg ∧ z2.pk.op = z.pk.op ∧ z2.pk.f = z.pk.f ∧ z2.pk.t = z.pk.t))
    (HP2 : Hid (∀ W, OrE W → Calls Tryz.prog 5 #[.string E] W fun e w' => ∃ v, e = .returned (.tuple #[.agg (z2.v v), .nilIface]) ∧ RgA W.heap.size w' v z2.sg.o.rs ∧ Below W.heap.size W w')) :
    Calls Tryz.prog 3 #[.string st] w fun e w' => e = .returned (.bool true) ∧ Below w.heap.size w w' := by
  go_enter Tryz.func3, Tryz.ntmps3
  go_wp2_with fail
  refine (reads_p _ hG).mono ?_
  rintro e w1 ⟨rfl, hl⟩
  go_upto_region 3 with fail
  go_cut [3, 4] from 13 (fun q y W => ∃ (B6 : Nat) (a0 : Option Addr) (cap0 : Nat), q = .pointer (some ⟨B6, 0, none⟩) ∧ y = .nilIface ∧ Below w.heap.size w W ∧ Rgs W (.slice a0 z.sg.o.rs.length cap0) z.sg.o.rs ∧ At W B6 (z.v (.slice a0 z.sg.o.rs.length cap0)))
  case first =>
    go_wp2_with fail
    refine (HP.out _ (hG.later hl)).mono ?_
    rintro e w5 ⟨v, rfl, hv, hb⟩
    obtain ⟨a0, cap0, hve, -⟩ := id hv
    subst hve
    have hX0 : At (w5.alloc (.cells #[.int .i64 0, .int .i64 0, .int .i64 0, .int .i64 0, .string ⟨#[]⟩, .int .i64 0, .int .i64 0, .int .i64 0, .int .i64 0, .int .i64 0, .int .i64 0, .int .i64 0, .int .i64 0, .int .i64 0, .int .i64 0, .int .i64 0, .bool false, .bool false, .string ⟨#[]⟩, .string ⟨#[]⟩, .int .i64 0, .int .i64 0, .int .i64 0, .int .i64 0, .string ⟨#[]⟩, .int .i64 0, .int .i64 0, .int .i64 0, .int .i64 0, .int .i64 0, .int .i64 0, .int .i64 0, .int .i64 0, .int .i64 0, .int .i64 0, .int .i64 0, .bool false, .bool false, .bool false, .slice none 0 0, .string ⟨#[]⟩] 37)) w5.heap.size PZ := At.box w5 #[.int .i64 0, .int .i64 0, .int .i64 0, .int .i64 0, .string ⟨#[]⟩, .int .i64 0, .int .i64 0, .int .i64 0, .int .i64 0, .int .i64 0, .int .i64 0, .int .i64 0, .int .i64 0, .int .i64 0, .int .i64 0, .int .i64 0, .bool false, .bool false, .string ⟨#[]⟩, .string ⟨#[]⟩, .int .i64 0, .int .i64 0, .int .i64 0, .int .i64 0, .string ⟨#[]⟩, .int .i64 0, .int .i64 0, .int .i64 0, .int .i64 0, .int .i64 0, .int .i64 0, .int .i64 0, .int .i64 0, .int .i64 0, .int .i64 0, .int .i64 0, .bool false, .bool false, .bool false, .slice none 0 0, .string ⟨#[]⟩] 37
    have hbx : Below w5.heap.size w5 ((w5.alloc (.cells #[.int .i64 0, .int .i64 0, .int .i64 0, .int .i64 0, .string ⟨#[]⟩, .int .i64 0, .int .i64 0, .int .i64 0, .int .i64 0, .int .i64 0, .int .i64 0, .int .i64 0, .int .i64 0, .int .i64 0, .int .i64 0, .int .i64 0, .bool false, .bool false, .string ⟨#[]⟩, .string ⟨#[]⟩, .int .i64 0, .int .i64 0, .int .i64 0, .int .i64 0, .string ⟨#[]⟩, .int .i64 0, .int .i64 0, .int .i64 0, .int .i64 0, .int .i64 0, .int .i64 0, .int .i64 0, .int .i64 0, .int .i64 0, .int .i64 0, .int .i64 0, .bool false, .bool false, .bool false, .slice none 0 0, .string ⟨#[]⟩] 37)).setCells w5.heap.size 0 (z.v (.slice a0 z.sg.o.rs.length cap0)).toList) := Below.setCells (Nat.le_refl _) _ _ _ (bel1 w5 (.cells #[.int .i64 0, .int .i64 0, .int .i64 0, .int .i64 0, .string ⟨#[]⟩, .int .i64 0, .int .i64 0, .int .i64 0, .int .i64 0, .int .i64 0, .int .i64 0, .int .i64 0, .int .i64 0, .int .i64 0, .int .i64 0, .int .i64 0, .bool false, .bool false, .string ⟨#[]⟩, .string ⟨#[]⟩, .int .i64 0, .int .i64 0, .int .i64 0, .int .i64 0, .string ⟨#[]⟩, .int .i64 0, .int .i64 0, .int .i64 0, .int .i64 0, .int .i64 0, .int .i64 0, .int .i64 0, .int .i64 0, .int .i64 0, .int .i64 0, .int .i64 0, .bool false, .bool false, .bool false, .slice none 0 0, .string ⟨#[]⟩] 37))
    have hX : At ((w5.alloc (.cells #[.int .i64 0, .int .i64 0, .int .i64 0, .int .i64 0, .string ⟨#[]⟩, .int .i64 0, .int .i64 0, .int .i64 0, .int .i64 0, .int .i64 0, .int .i64 0, .int .i64 0, .int .i64 0, .int .i64 0, .int .i64 0, .int .i64 0, .bool false, .bool false, .string ⟨#[]⟩, .string ⟨#[]⟩, .int .i64 0, .int .i64 0, .int .i64 0, .int .i64 0, .string ⟨#[]⟩, .int .i64 0, .int .i64 0, .int .i64 0, .int .i64 0, .int .i64 0, .int .i64 0, .int .i64 0, .int .i64 0, .int .i64 0, .int .i64 0, .int .i64 0, .bool false, .bool false, .bool false, .slice none 0 0, .string ⟨#[]⟩] 37)).setCells w5.heap.size 0 (z.v (.slice a0 z.sg.o.rs.length cap0)).toList) w5.heap.size (z.v (.slice a0 z.sg.o.rs.length cap0)) := At.whole (vs := z.v (.slice a0 z.sg.o.rs.length cap0)) hX0 rfl
    go_wp2_with (refine wpList_store_mid (by rfl) 37 _ _ (by rfl) (w5.heap.size) 0 (z.v (.slice a0 z.sg.o.rs.length cap0)) (by rfl) (by rfl) hX0.there size36 (Pd.one _ rfl) ?_)
    go_wp2
    go_meet
    case rel => exact ⟨w5.heap.size, a0, cap0, rfl, rfl, bt hl (bt hb hbx), (hv.later hbx).rgs, hX⟩
  case rest =>
  clear hl
  obtain ⟨B6, a0, cap0, rfl, rfl, hl, hv, hX⟩ := hcut
  obtain ⟨w2, hw2⟩ : ∃ x, x = wc := ⟨wc, rfl⟩
  subst hw2
  have c0 : w2.cell? ⟨B6, 0, none⟩ = some (.int .i64 z.k) := (hX.2 0 _ rfl).1
  have c10 : w2.cell? ⟨B6, 10, none⟩ = some (.int .i64 z.pk.f) := (hX.2 10 _ rfl).1
  have c11 : w2.cell? ⟨B6, 11, none⟩ = some (.int .i64 z.pk.t) := (hX.2 11 _ rfl).1
  go_wp2_with (refine wpList_loadG 35 _ (by rfl) (by rfl) B6 25 (by rfl) _ _ hX.p25 Tryz.underlying35 rfl size35 ?_)
  refine (HS.out _ _ hv (hG.later hl)).mono ?_
  rintro e w3 ⟨rfl, hb⟩
  replace hl := bt hl hb
  replace hX := hX.later hb
  replace hv := hv.later hb
  clear hb c0 c10 c11 HS HP
  go_upto_region 7 with fail
  go_cut [7] from 13 (fun q W => ∃ (B7 : Nat), q = .pointer (some ⟨B7, 0, none⟩) ∧ w3.heap.size ≤ B7 ∧ At W B7 #[.int .i64 z.pk.f, .int .i64 z.pk.t, .int .i64 z.pk.tl, .int .i64 z.pk.pr, .int .i64 z.pk.id, .int .i64 z.pk.fg, .bool z.pk.mo, .bool z.pk.dn, .string z.pk.op, .string z.pk.da] ∧ Below w3.heap.size w3 W)
  case first =>
    have hQ0 := At.box w3 #[.int .i64 0, .int .i64 0, .int .i64 0, .int .i64 0, .int .i64 0, .int .i64 0, .bool false, .bool false, .string ⟨#[]⟩, .string ⟨#[]⟩] 28
    go_wp2_with (first | (refine wpList_loadG 28 _ (by rfl) (by rfl) B6 10 (by rfl) _ _ hX.p10 Tryz.underlying28 rfl size27 ?_) | (refine wpList_store_mid (by rfl) 28 _ _ (by rfl) (w3.heap.size) 0 #[.int .i64 z.pk.f, .int .i64 z.pk.t, .int .i64 z.pk.tl, .int .i64 z.pk.pr, .int .i64 z.pk.id, .int .i64 z.pk.fg, .bool z.pk.mo, .bool z.pk.dn, .string z.pk.op, .string z.pk.da] (by rfl) (by rfl) hQ0.there size27 (by simp [Value.oneCell']) ?_))
    go_wp2
    go_meet
    case rel => exact ⟨w3.heap.size, rfl, Nat.le_refl _, At.whole (vs := #[.int .i64 z.pk.f, .int .i64 z.pk.t, .int .i64 z.pk.tl, .int .i64 z.pk.pr, .int .i64 z.pk.id, .int .i64 z.pk.fg, .bool z.pk.mo, .bool z.pk.dn, .string z.pk.op, .string z.pk.da]) hQ0 rfl, Below.setCells (Nat.le_refl _) _ _ _ (bel1 w3 (.cells #[.int .i64 0, .int .i64 0, .int .i64 0, .int .i64 0, .int .i64 0, .int .i64 0, .bool false, .bool false, .string ⟨#[]⟩, .string ⟨#[]⟩] 28))⟩
  case rest =>
  obtain ⟨B7, rfl, hB7, hQ, hb7⟩ := hcut
  obtain ⟨w4, hw4⟩ : ∃ x, x = wc := ⟨wc, rfl⟩
  subst hw4
  have q9 := (hQ.2 9 _ rfl).1
  have z9 := (hQ.2 9 _ rfl).2
  go_upto_region 9 with fail
  clear q9 z9
  have hb8 := hb7.setCell (p := ⟨B7, 9, none⟩) hB7 (.string b)
  replace hQ : At _ B7 #[.int .i64 z.pk.f, .int .i64 z.pk.t, .int .i64 z.pk.tl, .int .i64 z.pk.pr, .int .i64 z.pk.id, .int .i64 z.pk.fg, .bool z.pk.mo, .bool z.pk.dn, .string z.pk.op, .string b] := hQ.set 9 (.string b)
  clear hb7
  generalize hw5 : w4.setCell ⟨B7, 9, none⟩ (.string b) = w5 at *
  clear hw5
  replace hl := bt hl hb8
  replace hX := hX.later hb8
  replace hv := hv.later hb8
  clear hb8 hB7
  go_wp2_with (refine wpList_loadG 28 _ (by rfl) (by rfl) B7 0 (by rfl) _ _ hQ.range Tryz.underlying28 rfl size27 ?_)
  refine (HI.out _).mono ?_
  rintro e w6 ⟨rfl, hb⟩
  replace hl := bt hl hb
  replace hX := hX.later hb
  replace hv := hv.later hb
  clear hb hQ HI
  have c1 : w6.cell? ⟨B6, 1, none⟩ = some (.int .i64 z.fr.a) := (hX.2 1 _ rfl).1
  have c2 : w6.cell? ⟨B6, 2, none⟩ = some (.int .i64 z.fr.b) := (hX.2 2 _ rfl).1
  have c3 : w6.cell? ⟨B6, 3, none⟩ = some (.int .i64 z.fr.k) := (hX.2 3 _ rfl).1
  have hbu : ∀ W, (Instr.build 24 #[(0, .int .i64 z.fr.a), (1, .int .i64 z.fr.b), (2, .int .i64 z.fr.k), (3, .string C)]).run Tryz.prog W = .ok (.agg #[.int .i64 z.fr.a, .int .i64 z.fr.b, .int .i64 z.fr.k, .string C]) W := fun W => run_build W 24 _ _ (by kernel_rfl)
  go_wp2_with fail
  refine (HE.out _).mono ?_
  rintro e w7 ⟨rfl, hb⟩
  replace hl := bt hl hb
  replace hX := hX.later hb
  replace hv := hv.later hb
  clear hb c1 c2 c3 hbu HE
  have hlt : decide ((st.size : Int) < (E.size : Int)) = false := decide_eq_false (by omega)
  have hlt2 : decide (st.size < E.size) = false := decide_eq_false (by omega)
  have hlt3 : ¬ st.size < E.size := by omega
  clear hs
  go_upto_region 13 with fail
  clear hlt hlt2 hlt3 hE
  go_cut [12, 4] from 13 (fun q y W => ∃ (B8 : Nat) (a1 : Option Addr) (cap1 : Nat), q = .pointer (some ⟨B8, 0, none⟩) ∧ y = .nilIface ∧ Below w7.heap.size w7 W ∧ Rgs W (.slice a1 z2.sg.o.rs.length cap1) z2.sg.o.rs ∧ At W B8 (z2.v (.slice a1 z2.sg.o.rs.length cap1)))
  case first =>
    go_wp2_with fail
    refine (HP2.out _ (hG.later hl)).mono ?_
    rintro e w5 ⟨v, rfl, hv2, hb⟩
    obtain ⟨a1, cap1, hve, -⟩ := id hv2
    subst hve
    clear hX hv
    have hX0 : At (w5.alloc (.cells #[.int .i64 0, .int .i64 0, .int .i64 0, .int .i64 0, .string ⟨#[]⟩, .int .i64 0, .int .i64 0, .int .i64 0, .int .i64 0, .int .i64 0, .int .i64 0, .int .i64 0, .int .i64 0, .int .i64 0, .int .i64 0, .int .i64 0, .bool false, .bool false, .string ⟨#[]⟩, .string ⟨#[]⟩, .int .i64 0, .int .i64 0, .int .i64 0, .int .i64 0, .string ⟨#[]⟩, .int .i64 0, .int .i64 0, .int .i64 0, .int .i64 0, .int .i64 0, .int .i64 0, .int .i64 0, .int .i64 0, .int .i64 0, .int .i64 0, .int .i64 0, .bool false, .bool false, .bool false, .slice none 0 0, .string ⟨#[]⟩] 37)) w5.heap.size PZ := At.box w5 #[.int .i64 0, .int .i64 0, .int .i64 0, .int .i64 0, .string ⟨#[]⟩, .int .i64 0, .int .i64 0, .int .i64 0, .int .i64 0, .int .i64 0, .int .i64 0, .int .i64 0, .int .i64 0, .int .i64 0, .int .i64 0, .int .i64 0, .bool false, .bool false, .string ⟨#[]⟩, .string ⟨#[]⟩, .int .i64 0, .int .i64 0, .int .i64 0, .int .i64 0, .string ⟨#[]⟩, .int .i64 0, .int .i64 0, .int .i64 0, .int .i64 0, .int .i64 0, .int .i64 0, .int .i64 0, .int .i64 0, .int .i64 0, .int .i64 0, .int .i64 0, .bool false, .bool false, .bool false, .slice none 0 0, .string ⟨#[]⟩] 37
    have hbx : Below w5.heap.size w5 ((w5.alloc (.cells #[.int .i64 0, .int .i64 0, .int .i64 0, .int .i64 0, .string ⟨#[]⟩, .int .i64 0, .int .i64 0, .int .i64 0, .int .i64 0, .int .i64 0, .int .i64 0, .int .i64 0, .int .i64 0, .int .i64 0, .int .i64 0, .int .i64 0, .bool false, .bool false, .string ⟨#[]⟩, .string ⟨#[]⟩, .int .i64 0, .int .i64 0, .int .i64 0, .int .i64 0, .string ⟨#[]⟩, .int .i64 0, .int .i64 0, .int .i64 0, .int .i64 0, .int .i64 0, .int .i64 0, .int .i64 0, .int .i64 0, .int .i64 0, .int .i64 0, .int .i64 0, .bool false, .bool false, .bool false, .slice none 0 0, .string ⟨#[]⟩] 37)).setCells w5.heap.size 0 (z2.v (.slice a1 z2.sg.o.rs.length cap1)).toList) := Below.setCells (Nat.le_refl _) _ _ _ (bel1 w5 (.cells #[.int .i64 0, .int .i64 0, .int .i64 0, .int .i64 0, .string ⟨#[]⟩, .int .i64 0, .int .i64 0, .int .i64 0, .int .i64 0, .int .i64 0, .int .i64 0, .int .i64 0, .int .i64 0, .int .i64 0, .int .i64 0, .int .i64 0, .bool false, .bool false, .string ⟨#[]⟩, .string ⟨#[]⟩, .int .i64 0, .int .i64 0, .int .i64 0, .int .i64 0, .string ⟨#[]⟩, .int .i64 0, .int .i64 0, .int .i64 0, .int .i64 0, .int .i64 0, .int .i64 0, .int .i64 0, .int .i64 0, .int .i64 0, .int .i64 0, .int .i64 0, .bool false, .bool false, .bool false, .slice none 0 0, .string ⟨#[]⟩] 37))
    have hX5 : At ((w5.alloc (.cells #[.int .i64 0, .int .i64 0, .int .i64 0, .int .i64 0, .string ⟨#[]⟩, .int .i64 0, .int .i64 0, .int .i64 0, .int .i64 0, .int .i64 0, .int .i64 0, .int .i64 0, .int .i64 0, .int .i64 0, .int .i64 0, .int .i64 0, .bool false, .bool false, .string ⟨#[]⟩, .string ⟨#[]⟩, .int .i64 0, .int .i64 0, .int .i64 0, .int .i64 0, .string ⟨#[]⟩, .int .i64 0, .int .i64 0, .int .i64 0, .int .i64 0, .int .i64 0, .int .i64 0, .int .i64 0, .int .i64 0, .int .i64 0, .int .i64 0, .int .i64 0, .bool false, .bool false, .bool false, .slice none 0 0, .string ⟨#[]⟩] 37)).setCells w5.heap.size 0 (z2.v (.slice a1 z2.sg.o.rs.length cap1)).toList) w5.heap.size (z2.v (.slice a1 z2.sg.o.rs.length cap1)) := At.whole (vs := z2.v (.slice a1 z2.sg.o.rs.length cap1)) hX0 rfl
    go_wp2_with (refine wpList_store_mid (by rfl) 37 _ _ (by rfl) (w5.heap.size) 0 (z2.v (.slice a1 z2.sg.o.rs.length cap1)) (by rfl) (by rfl) hX0.there size36 (Pd.one _ rfl) ?_)
    go_wp2
    go_meet
    case rel => exact ⟨w5.heap.size, a1, cap1, rfl, rfl, bt hb hbx, (hv2.later hbx).rgs, hX5⟩
  case rest =>
  obtain ⟨B8, a1, cap1, rfl, rfl, hb, hv2, hY⟩ := hcut
  replace hl := bt hl hb
  replace hX := hX.later hb
  replace hv := hv.later hb
  obtain ⟨w8, hw8⟩ : ∃ x, x = wc := ⟨wc, rfl⟩
  subst hw8
  clear hb HP2
  obtain ⟨hk2, hsg, hop, hpf, hpt⟩ := h2.out
  have hY25 : w8.rangeAt B8 25 [.int .i64 z.sg.fr, .int .i64 z.sg.dt, .int .i64 z.sg.sq, .int .i64 z.sg.ak, .int .i64 z.sg.fl, .int .i64 z.sg.wi, .int .i64 z.sg.ur, .int .i64 z.sg.o.m, .int .i64 z.sg.o.c, .int .i64 z.sg.o.t, .int .i64 z.sg.o.ec, .bool z.sg.o.sd, .bool z.sg.o.ok, .bool z.sg.o.sp, (.slice a1 z.sg.o.rs.length cap1), .string z.sg.da] := by
    have := hY.p25
    rw [hsg] at this
    exact this
  rw [hsg] at hv2
  have hsame : sameG z.sg z.sg = true := by
    unfold sameG sameNG sameOO sameO sameN sameM
    simp
  have d0 : w8.cell? ⟨B8, 0, none⟩ = some (.int .i64 z2.k) := (hY.2 0 _ rfl).1
  have hSM : Hid (Calls Tryz.prog 9 #[.agg #[.int .i64 z.sg.fr, .int .i64 z.sg.dt, .int .i64 z.sg.sq, .int .i64 z.sg.ak, .int .i64 z.sg.fl, .int .i64 z.sg.wi, .int .i64 z.sg.ur, .int .i64 z.sg.o.m, .int .i64 z.sg.o.c, .int .i64 z.sg.o.t, .int .i64 z.sg.o.ec, .bool z.sg.o.sd, .bool z.sg.o.ok, .bool z.sg.o.sp, (.slice a0 z.sg.o.rs.length cap0), .string z.sg.da], .agg #[.int .i64 z.sg.fr, .int .i64 z.sg.dt, .int .i64 z.sg.sq, .int .i64 z.sg.ak, .int .i64 z.sg.fl, .int .i64 z.sg.wi, .int .i64 z.sg.ur, .int .i64 z.sg.o.m, .int .i64 z.sg.o.c, .int .i64 z.sg.o.t, .int .i64 z.sg.o.ec, .bool z.sg.o.sd, .bool z.sg.o.ok, .bool z.sg.o.sp, (.slice a1 z.sg.o.rs.length cap1), .string z.sg.da]] w8 fun e w' => e = .returned (.bool true) ∧ Below w8.heap.size w8 w') := by
    have := same_s z.sg z.sg (.slice a0 z.sg.o.rs.length cap0) (.slice a1 z.sg.o.rs.length cap1) w8 hv hv2 (by omega) (by omega)
    rw [hsame] at this
    exact this
  go_wp2_with (first | (refine wpList_loadG 35 _ (by rfl) (by rfl) B6 25 (by rfl) _ _ hX.p25 Tryz.underlying35 rfl size35 ?_) | (refine wpList_loadG 35 _ (by rfl) (by rfl) B8 25 (by rfl) _ _ hY25 Tryz.underlying35 rfl size35 ?_))
  refine hSM.out.mono ?_
  rintro e w9 ⟨rfl, hb⟩
  replace hl := bt hl hb
  replace hX := hX.later hb
  replace hY := hY.later hb
  clear hb hSM d0 hY25
  have c18 : w9.cell? ⟨B6, 18, none⟩ = some (.string z.pk.op) := (hX.2 18 _ rfl).1
  have c10 : w9.cell? ⟨B6, 10, none⟩ = some (.int .i64 z.pk.f) := (hX.2 10 _ rfl).1
  have c11 : w9.cell? ⟨B6, 11, none⟩ = some (.int .i64 z.pk.t) := (hX.2 11 _ rfl).1
  have d18 : w9.cell? ⟨B8, 18, none⟩ = some (.string z.pk.op) := by rw [← hop]; exact (hY.2 18 _ rfl).1
  have d10 : w9.cell? ⟨B8, 10, none⟩ = some (.int .i64 z.pk.f) := by rw [← hpf]; exact (hY.2 10 _ rfl).1
  have d11 : w9.cell? ⟨B8, 11, none⟩ = some (.int .i64 z.pk.t) := by rw [← hpt]; exact (hY.2 11 _ rfl).1
  clear h2 hop hpf hpt hsg hX hY hv hv2
  go_wp2
  go_ret
  exact ⟨rfl, hl⟩
theorem ta_any (st : ByteArray) (w : World) (hG : OrE w) (hs : st.size ≤ 140737488351232) : Calls Tryz.prog 3 #[.string st] w fun e w' => e = .returned (.bool true) ∧ Below w.heap.size w w' := by
  obtain ⟨r, h1, hr, ht⟩ := par_prog st hs shNil shFail14
  cases r with
  | error q =>
    obtain ⟨l, a, c⟩ := q
    exact ta_e st l a c w hG h1
  | ok z =>
    rcases Bool.eq_false_or_eq_true (z.k != 4) with hk | hk
    · exact ta_k st z w hG hk h1
    · obtain ⟨b, C, E, HS, HI, HE, hE, fr, HP2⟩ := again_all st z shNil (ht z rfl (by simpa using hk))
      exact ta_y st b C E z { k := 4, fr := fr, ar := ArT.zero, pk := { f := z.pk.f, t := z.pk.t, tl := z.pk.tl, pr := z.pk.pr, id := z.pk.id, fg := z.pk.fg, mo := z.pk.mo, dn := z.pk.dn, op := z.pk.op, da := b }, ic := IcT.zero, sg := z.sg } w hG hk hr hE hs h1 HS HI HE ⟨rfl, rfl, rfl, rfl, rfl⟩ HP2
end Go.Proofs.YtkpdmgoldngdaabGreatDoor

namespace Go.Proofs.YtkpdmgoldngdaabGreatDoor
open Go.ChangeShapes Go.WideShapes Go.ChangeAt Go.RowKit
set_option maxRecDepth 100000
open Go.ChangeMaps (open_string)

theorem ownK : ownKnob Tryz.prog.godebug = none := by kernel_rfl
theorem laidOutK : laidOutB Tryz.prog = true := by kernel_rfl
theorem gOrder : Tryz.prog.globalNamed "sternpost/opts.order" = some 0 := by kernel_rfl
theorem tOrder : (Tryz.prog.globals[0]?).map (·.type) = some 120 := by kernel_rfl
theorem gErr : Tryz.prog.globalNamed "errors.errorType" = some 1 := by kernel_rfl
theorem rtK : (Tryz.prog.cutTypes.find? (·.1 == "internal/reflectlite.rtype")).map (·.2) = some 127 := by kernel_rfl
theorem oneRow : ((List.range 242).filter fun t => Tryz.prog.rowNamed t [101, 114, 114, 111, 114]) = [39] := by kernel_rfl
theorem typesK : Tryz.prog.types.size = 242 := by kernel_rfl
def laidL : List (String × DataW Unit) := [("errors.errorType", Rows.laid_errors_errorType), ("sternpost/opts.order", Rows.laid_sternpost_opts_order)]
def laidO : List (String × DataW Unit) := [("sternpost/opts.order", Rows.laid_sternpost_opts_order)]
def laidE : List (String × DataW Unit) := [("errors.errorType", Rows.laid_errors_errorType)]
theorem door_met (os : Os) (args : Array Value) : laidMetH Tryz.prog laidL ((World.doorLaid Tryz.prog 400 os).forCall (fun _ _ => 0) ⟨#[], args, []⟩).memory :=
  laidMetH_of_parts3 (fuel := 8) (laidMet_of_run' 8 (by kernel_rfl) (by kernel_rfl)) (by kernel_rfl) (by kernel_rfl)
theorem ety_of {W : World} (h : laidMetH Tryz.prog laidL W) : Ety W := by
  have h' : laidMet Tryz.prog laidO W ∧ handlesMet Tryz.prog laidE W := h
  obtain ⟨name, u, ty, e1, e2, e3, e4, e5⟩ := h'.2 _ (List.mem_singleton.2 rfl)
  have en : name = [101, 114, 114, 111, 114] := (Option.some.inj e1).symm
  subst en
  obtain rfl := Option.some.inj (rtK.symm.trans e2)
  have hm : ty ∈ (List.range 242).filter fun t => Tryz.prog.rowNamed t [101, 114, 114, 111, 114] := List.mem_filter.2 ⟨List.mem_range.2 (by rw [← typesK]; exact e3), e4⟩
  rw [oneRow] at hm
  obtain rfl := List.mem_singleton.1 hm
  have hh : typeHandle Tryz.prog 39 = .pointer (some ⟨3, 39, none⟩) := by kernel_rfl
  rw [hh] at e5
  have := World.var?_cell gErr e5 0
  unfold Ety
  simpa using this
theorem ord_of {W : World} (h : laidMetH Tryz.prog laidL W) : OrE W := by
  have h' : laidMet Tryz.prog laidO W ∧ handlesMet Tryz.prog laidE W := h
  have hT : Lib.TabIs Tryz.prog W "sternpost/opts.order" .i64 [2, 3, 4, 8, 5] := Lib.tabIs_of_head gOrder tOrder Tryz.underlying120 Tryz.underlying3 (by kernel_rfl) (by kernel_rfl) h'.1
  exact ⟨⟨hT.cell gOrder 0 (by decide), hT.cell gOrder 1 (by decide), hT.cell gOrder 2 (by decide), hT.cell gOrder 3 (by decide), hT.cell gOrder 4 (by decide)⟩, ety_of h⟩
end Go.Proofs.YtkpdmgoldngdaabGreatDoor
