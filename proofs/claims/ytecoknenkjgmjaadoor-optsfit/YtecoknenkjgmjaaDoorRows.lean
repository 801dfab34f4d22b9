/-
  NARROWER THAN 'FOR EVERY INPUT', by the rows' own cells (each row's printed sentence says how): OptsWrite: laid · OptsRead: laid · OptsSame: laid · OptsBack: laid · OptsFit: laid · OptsTail: laid.
  DERIVED. THE GIVEN ROWS OF THIS SEAT. 6 by the template 'for every input the law returns true; each argument reads behind the call as it read before'; 0 by the template 'total and deterministic' (their statements: YtecoknenkjgmjaaDoorTotals.lean).
  GIVEN WITH THE SEED: the statements are not yours to turn. If you find one false, say at which input.
  Laid BY PROGRAM, IN A SANDBOX (cutbox-rows.mjs): the forced cells as the released guide's own fill.sh prints them over the translation 5f22f460d5b7d599… (all of the seat's roots in one cut). By AI agents, Wed Nov 11 2026. No macro, syntax, notation, axiom, sorry.
-/
import Derived.Test.YtecoknenkjgmjaaDoorChecked
import GoSem.Claim
import GoSem.ClaimJoined
import GoSem.ClaimMapViews
import Derived.JoinedTies
import Derived.KernelRfl
namespace Go.Proofs.YtecoknenkjgmjaaDoor
/- THE CELL 'sum', in the pinned program and in every row, IS THE sha256 OF THE DUMP (.gsa) THAT YtecoknenkjgmjaaDoorProg.lean LOADS. Nothing in Lean hashes anything: it is a label: what it is worth is what the hold of that sum in a sandbox is worth. -/
noncomputable def Tryd.pinned : Pinned := { name := "ytecoknenkjgmjaadoor", sum := "5f22f460d5b7d59989bde472b3508e1007d780a672792671a2aaacf1c14135fe", checked := Tryd.checked }
namespace Rows
def none {H : Type} : Left H := { results := [], args := [] }

/- WHAT THE LISTED PACKAGE-LEVEL VARIABLES READ AS WHEN THE CALL BEGINS. Each datum BY PROGRAM (the guide's laid-datum.mjs) off the statement by which the dump's own 'gosem.cut.vars' lays the variable. In a bare row this is a premise. The card (YtecoknenkjgmjaaDoorCards.lean) ties it to the program's text. -/
def laid_sternpost_opts_order {H : Type} : DataW H := .agg [.lit (.int .i64 2), .lit (.int .i64 3), .lit (.int .i64 4), .lit (.int .i64 8), .lit (.int .i64 5)]

/-- 'sternpostlaw07.OptsWrite': WHATEVER THE INPUT: true; the input reads as it did. -/
def optsWriteSpec : ChangeSpec := { name := "optsWrite", fn := fun _ => fun
  | [d1, d2] => { results := [.lit (.bool true)], args := [d1, d2] }
  | _ => none }
def optsWriteRow : OpenClaim := { program := "ytecoknenkjgmjaadoor", sum := "5f22f460d5b7d59989bde472b3508e1007d780a672792671a2aaacf1c14135fe", func := "sternpost/sternpostlaw07.OptsWrite", spec := "optsWrite", inPlace := ["internal/abi.NoEscape", "internal/bytealg.MakeNoZero"], unfollowed := true, recurses := true, named := ["sternpost/opts.order"], apart := false, laid := [("sternpost/opts.order", laid_sternpost_opts_order)] }
def OptsWriteSaid : Prop := optsWriteRow.holds Tryd.pinned (OpenSpec.ofChange optsWriteSpec)

/-- ITS FALSE NEIGHBOUR: 'it returns false'. Refute it at one input. -/
def optsWriteWrong : ChangeSpec := { name := "optsWrite", fn := fun _ => fun
  | [d1, d2] => { results := [.lit (.bool false)], args := [d1, d2] }
  | _ => none }
def OptsWriteWrongFalsely : Prop := optsWriteRow.holds Tryd.pinned (OpenSpec.ofChange optsWriteWrong)

/-- 'sternpostlaw07.OptsRead': WHATEVER THE INPUT: true; the input reads as it did. -/
def optsReadSpec : ChangeSpec := { name := "optsRead", fn := fun _ => fun
  | [d] => { results := [.lit (.bool true)], args := [d] }
  | _ => none }
def optsReadRow : OpenClaim := { program := "ytecoknenkjgmjaadoor", sum := "5f22f460d5b7d59989bde472b3508e1007d780a672792671a2aaacf1c14135fe", func := "sternpost/sternpostlaw07.OptsRead", spec := "optsRead", inPlace := ["internal/abi.NoEscape", "internal/bytealg.MakeNoZero"], unfollowed := true, recurses := true, named := ["sternpost/opts.order"], apart := false, laid := [("sternpost/opts.order", laid_sternpost_opts_order)] }
def OptsReadSaid : Prop := optsReadRow.holds Tryd.pinned (OpenSpec.ofChange optsReadSpec)

/-- ITS FALSE NEIGHBOUR: 'it returns false'. Refute it at one input. -/
def optsReadWrong : ChangeSpec := { name := "optsRead", fn := fun _ => fun
  | [d] => { results := [.lit (.bool false)], args := [d] }
  | _ => none }
def OptsReadWrongFalsely : Prop := optsReadRow.holds Tryd.pinned (OpenSpec.ofChange optsReadWrong)

/-- 'sternpostlaw07.OptsSame': WHATEVER THE INPUT: true; the input reads as it did. -/
def optsSameSpec : ChangeSpec := { name := "optsSame", fn := fun _ => fun
  | [d1, d2] => { results := [.lit (.bool true)], args := [d1, d2] }
  | _ => none }
def optsSameRow : OpenClaim := { program := "ytecoknenkjgmjaadoor", sum := "5f22f460d5b7d59989bde472b3508e1007d780a672792671a2aaacf1c14135fe", func := "sternpost/sternpostlaw07.OptsSame", spec := "optsSame", inPlace := ["internal/abi.NoEscape", "internal/bytealg.MakeNoZero"], unfollowed := true, recurses := true, named := ["sternpost/opts.order"], apart := false, laid := [("sternpost/opts.order", laid_sternpost_opts_order)] }
def OptsSameSaid : Prop := optsSameRow.holds Tryd.pinned (OpenSpec.ofChange optsSameSpec)

/-- ITS FALSE NEIGHBOUR: 'it returns false'. Refute it at one input. -/
def optsSameWrong : ChangeSpec := { name := "optsSame", fn := fun _ => fun
  | [d1, d2] => { results := [.lit (.bool false)], args := [d1, d2] }
  | _ => none }
def OptsSameWrongFalsely : Prop := optsSameRow.holds Tryd.pinned (OpenSpec.ofChange optsSameWrong)

/-- 'sternpostlaw07.OptsBack': WHATEVER THE INPUT: true; the input reads as it did. -/
def optsBackSpec : ChangeSpec := { name := "optsBack", fn := fun _ => fun
  | [d1, d2] => { results := [.lit (.bool true)], args := [d1, d2] }
  | _ => none }
def optsBackRow : OpenClaim := { program := "ytecoknenkjgmjaadoor", sum := "5f22f460d5b7d59989bde472b3508e1007d780a672792671a2aaacf1c14135fe", func := "sternpost/sternpostlaw07.OptsBack", spec := "optsBack", inPlace := ["internal/abi.NoEscape", "internal/bytealg.MakeNoZero"], unfollowed := true, recurses := true, named := ["sternpost/opts.order"], apart := false, laid := [("sternpost/opts.order", laid_sternpost_opts_order)] }
def OptsBackSaid : Prop := optsBackRow.holds Tryd.pinned (OpenSpec.ofChange optsBackSpec)

/-- ITS FALSE NEIGHBOUR: 'it returns false'. Refute it at one input. -/
def optsBackWrong : ChangeSpec := { name := "optsBack", fn := fun _ => fun
  | [d1, d2] => { results := [.lit (.bool false)], args := [d1, d2] }
  | _ => none }
def OptsBackWrongFalsely : Prop := optsBackRow.holds Tryd.pinned (OpenSpec.ofChange optsBackWrong)

/-- 'sternpostlaw07.OptsFit': WHATEVER THE INPUT: true; the input reads as it did. -/
def optsFitSpec : ChangeSpec := { name := "optsFit", fn := fun _ => fun
  | [d1, d2] => { results := [.lit (.bool true)], args := [d1, d2] }
  | _ => none }
def optsFitRow : OpenClaim := { program := "ytecoknenkjgmjaadoor", sum := "5f22f460d5b7d59989bde472b3508e1007d780a672792671a2aaacf1c14135fe", func := "sternpost/sternpostlaw07.OptsFit", spec := "optsFit", inPlace := ["internal/abi.NoEscape", "internal/bytealg.MakeNoZero"], unfollowed := true, recurses := true, named := ["sternpost/opts.order"], apart := false, laid := [("sternpost/opts.order", laid_sternpost_opts_order)] }
def OptsFitSaid : Prop := optsFitRow.holds Tryd.pinned (OpenSpec.ofChange optsFitSpec)

/-- ITS FALSE NEIGHBOUR: 'it returns false'. Refute it at one input. -/
def optsFitWrong : ChangeSpec := { name := "optsFit", fn := fun _ => fun
  | [d1, d2] => { results := [.lit (.bool false)], args := [d1, d2] }
  | _ => none }
def OptsFitWrongFalsely : Prop := optsFitRow.holds Tryd.pinned (OpenSpec.ofChange optsFitWrong)

/-- 'sternpostlaw07.OptsTail': WHATEVER THE INPUT: true; the input reads as it did. -/
def optsTailSpec : ChangeSpec := { name := "optsTail", fn := fun _ => fun
  | [d1, d2] => { results := [.lit (.bool true)], args := [d1, d2] }
  | _ => none }
def optsTailRow : OpenClaim := { program := "ytecoknenkjgmjaadoor", sum := "5f22f460d5b7d59989bde472b3508e1007d780a672792671a2aaacf1c14135fe", func := "sternpost/sternpostlaw07.OptsTail", spec := "optsTail", inPlace := ["internal/abi.NoEscape", "internal/bytealg.MakeNoZero"], unfollowed := true, recurses := true, named := ["sternpost/opts.order"], apart := false, laid := [("sternpost/opts.order", laid_sternpost_opts_order)] }
def OptsTailSaid : Prop := optsTailRow.holds Tryd.pinned (OpenSpec.ofChange optsTailSpec)

/-- ITS FALSE NEIGHBOUR: 'it returns false'. Refute it at one input. -/
def optsTailWrong : ChangeSpec := { name := "optsTail", fn := fun _ => fun
  | [d1, d2] => { results := [.lit (.bool false)], args := [d1, d2] }
  | _ => none }
def OptsTailWrongFalsely : Prop := optsTailRow.holds Tryd.pinned (OpenSpec.ofChange optsTailWrong)

/- THE SECOND FORM. 'bulk': how many values and letters a reading holds, each counted each time it is reached (what is shared counts as often as it is met; a slice's spare places count too). A statement '..UptoSaid' is the law's where the arguments, and the package variables that the reading takes, are together of bulk at most 1048576: NARROWER than '..Said'. Prove '..Said' where nothing that the law and all that it calls make is longer than what came in: it says more and counts as full. Else prove '..UptoSaid'. A law counts once. -/
mutual
def uptoBulk {H : Type} : DataW H → Nat
  | .lit (.string bytes) => bytes.length + 1
  | .lit _ => 1
  | .nil => 1
  | .ptr d => uptoBulk d + 1
  | .slice elems spare => uptoBulkAll elems + uptoBulkAll spare + 1
  | .agg parts => uptoBulkAll parts + 1
  | .iface _ d => uptoBulk d + 1
  | .map entries => uptoBulkEntries entries + 1
  | .held _ => 1
def uptoBulkAll {H : Type} : List (DataW H) → Nat
  | [] => 0
  | d :: r => uptoBulk d + uptoBulkAll r
def uptoBulkEntries {H : Type} : List (Lit × DataW H) → Nat
  | [] => 0
  | x :: r => uptoBulkEntry x + uptoBulkEntries r
def uptoBulkEntry {H : Type} : Lit × DataW H → Nat
  | (.string bytes, d) => bytes.length + uptoBulk d + 1
  | (_, d) => uptoBulk d + 1
 end
def uptoSmall : (H : Type) → List (DataW H) → Bool := fun _ ds => decide (uptoBulkAll ds ≤ 1048576)
def OpenSpec.upto (s : _root_.Go.ChangeSpec) : _root_.Go.OpenSpec := { _root_.Go.OpenSpec.ofChange s with cond := some uptoSmall }

/-- 'sternpostlaw07.OptsWrite', WHERE WHAT IT READS IS OF BULK AT MOST 1048576: true; the input reads as it did. -/
def optsWriteUptoRow : OpenClaim := { program := "ytecoknenkjgmjaadoor", sum := "5f22f460d5b7d59989bde472b3508e1007d780a672792671a2aaacf1c14135fe", func := "sternpost/sternpostlaw07.OptsWrite", spec := "optsWrite", inPlace := ["internal/abi.NoEscape", "internal/bytealg.MakeNoZero"], unfollowed := true, recurses := true, named := ["sternpost/opts.order"], apart := false, laid := [("sternpost/opts.order", laid_sternpost_opts_order)], narrowed := true }
def OptsWriteUptoSaid : Prop := optsWriteUptoRow.holds Tryd.pinned (OpenSpec.upto optsWriteSpec)

/-- 'sternpostlaw07.OptsRead', WHERE WHAT IT READS IS OF BULK AT MOST 1048576: true; the input reads as it did. -/
def optsReadUptoRow : OpenClaim := { program := "ytecoknenkjgmjaadoor", sum := "5f22f460d5b7d59989bde472b3508e1007d780a672792671a2aaacf1c14135fe", func := "sternpost/sternpostlaw07.OptsRead", spec := "optsRead", inPlace := ["internal/abi.NoEscape", "internal/bytealg.MakeNoZero"], unfollowed := true, recurses := true, named := ["sternpost/opts.order"], apart := false, laid := [("sternpost/opts.order", laid_sternpost_opts_order)], narrowed := true }
def OptsReadUptoSaid : Prop := optsReadUptoRow.holds Tryd.pinned (OpenSpec.upto optsReadSpec)

/-- 'sternpostlaw07.OptsSame', WHERE WHAT IT READS IS OF BULK AT MOST 1048576: true; the input reads as it did. -/
def optsSameUptoRow : OpenClaim := { program := "ytecoknenkjgmjaadoor", sum := "5f22f460d5b7d59989bde472b3508e1007d780a672792671a2aaacf1c14135fe", func := "sternpost/sternpostlaw07.OptsSame", spec := "optsSame", inPlace := ["internal/abi.NoEscape", "internal/bytealg.MakeNoZero"], unfollowed := true, recurses := true, named := ["sternpost/opts.order"], apart := false, laid := [("sternpost/opts.order", laid_sternpost_opts_order)], narrowed := true }
def OptsSameUptoSaid : Prop := optsSameUptoRow.holds Tryd.pinned (OpenSpec.upto optsSameSpec)

/-- 'sternpostlaw07.OptsBack', WHERE WHAT IT READS IS OF BULK AT MOST 1048576: true; the input reads as it did. -/
def optsBackUptoRow : OpenClaim := { program := "ytecoknenkjgmjaadoor", sum := "5f22f460d5b7d59989bde472b3508e1007d780a672792671a2aaacf1c14135fe", func := "sternpost/sternpostlaw07.OptsBack", spec := "optsBack", inPlace := ["internal/abi.NoEscape", "internal/bytealg.MakeNoZero"], unfollowed := true, recurses := true, named := ["sternpost/opts.order"], apart := false, laid := [("sternpost/opts.order", laid_sternpost_opts_order)], narrowed := true }
def OptsBackUptoSaid : Prop := optsBackUptoRow.holds Tryd.pinned (OpenSpec.upto optsBackSpec)

/-- 'sternpostlaw07.OptsFit', WHERE WHAT IT READS IS OF BULK AT MOST 1048576: true; the input reads as it did. -/
def optsFitUptoRow : OpenClaim := { program := "ytecoknenkjgmjaadoor", sum := "5f22f460d5b7d59989bde472b3508e1007d780a672792671a2aaacf1c14135fe", func := "sternpost/sternpostlaw07.OptsFit", spec := "optsFit", inPlace := ["internal/abi.NoEscape", "internal/bytealg.MakeNoZero"], unfollowed := true, recurses := true, named := ["sternpost/opts.order"], apart := false, laid := [("sternpost/opts.order", laid_sternpost_opts_order)], narrowed := true }
def OptsFitUptoSaid : Prop := optsFitUptoRow.holds Tryd.pinned (OpenSpec.upto optsFitSpec)

/-- 'sternpostlaw07.OptsTail', WHERE WHAT IT READS IS OF BULK AT MOST 1048576: true; the input reads as it did. -/
def optsTailUptoRow : OpenClaim := { program := "ytecoknenkjgmjaadoor", sum := "5f22f460d5b7d59989bde472b3508e1007d780a672792671a2aaacf1c14135fe", func := "sternpost/sternpostlaw07.OptsTail", spec := "optsTail", inPlace := ["internal/abi.NoEscape", "internal/bytealg.MakeNoZero"], unfollowed := true, recurses := true, named := ["sternpost/opts.order"], apart := false, laid := [("sternpost/opts.order", laid_sternpost_opts_order)], narrowed := true }
def OptsTailUptoSaid : Prop := optsTailUptoRow.holds Tryd.pinned (OpenSpec.upto optsTailSpec)

end Rows
end Go.Proofs.YtecoknenkjgmjaaDoor
