/-
  NARROWER THAN 'FOR EVERY INPUT', by the rows' own cells (each row's printed sentence says how): ParseFrames: laid · ParseInner: laid · ParseOthers: laid · ParseSegments: laid · ParseMessages: laid · ParseInside: laid.
  DERIVED. THE GIVEN ROWS OF THIS SEAT. 6 by the template 'for every input the law returns true; each argument reads behind the call as it read before'; 0 by the template 'total and deterministic' (their statements: YtkpdmgoldngdaaaGreatDoorTotals.lean).
  GIVEN WITH THE SEED: the statements are not yours to turn. If you find one false, say at which input.
  Laid BY PROGRAM, IN A SANDBOX (cutbox-rows.mjs): the forced cells as the released guide's own fill.sh prints them over the translation 4d0a5679203f6453… (all of the seat's roots in one cut). By AI agents, Wed Nov 11 2026. No macro, syntax, notation, axiom, sorry.
-/
import Derived.Test.YtkpdmgoldngdaaaGreatDoorChecked
import GoSem.Claim
import GoSem.ClaimJoined
import GoSem.ClaimMapViews
import Derived.JoinedTies
import Derived.KernelRfl
namespace Go.Proofs.YtkpdmgoldngdaaaGreatDoor
/- THE CELL 'sum', in the pinned program and in every row, IS THE sha256 OF THE DUMP (.gsa) THAT YtkpdmgoldngdaaaGreatDoorProg.lean LOADS. Nothing in Lean hashes anything: it is a label: what it is worth is what the hold of that sum in a sandbox is worth. -/
noncomputable def Tryz.pinned : Pinned := { name := "ytkpdmgoldngdaaagreatdoor", sum := "4d0a5679203f645307dcec4e608946979e911a1ada2e84c6b94fe456a6bc7de4", checked := Tryz.checked }
namespace Rows
def none {H : Type} : Left H := { results := [], args := [] }

/- WHAT THE LISTED PACKAGE-LEVEL VARIABLES READ AS WHEN THE CALL BEGINS. Each datum BY PROGRAM (the guide's laid-datum.mjs) off the statement by which the dump's own 'gosem.cut.vars' lays the variable. In a bare row this is a premise. The card (YtkpdmgoldngdaaaGreatDoorCards.lean) ties it to the program's text. -/
def laid_errors_errorType {H : Type} : DataW H := .iface "internal/reflectlite.rtype" (.agg [.ptr (.lit (.string [101, 114, 114, 111, 114]))])
def laid_sternpost_opts_order {H : Type} : DataW H := .agg [.lit (.int .i64 2), .lit (.int .i64 3), .lit (.int .i64 4), .lit (.int .i64 8), .lit (.int .i64 5)]

/-- 'sternpostlaw09.ParseFrames': WHATEVER THE INPUT: true; the input reads as it did. -/
def parseFramesSpec : ChangeSpec := { name := "parseFrames", fn := fun _ => fun
  | [d] => { results := [.lit (.bool true)], args := [d] }
  | _ => none }
def parseFramesRow : OpenClaim := { program := "ytkpdmgoldngdaaagreatdoor", sum := "4d0a5679203f645307dcec4e608946979e911a1ada2e84c6b94fe456a6bc7de4", func := "sternpost/sternpostlaw09.ParseFrames", spec := "parseFrames", inPlace := ["internal/reflectlite.ValueOf", "(internal/reflectlite.Value).Type", "(internal/reflectlite.Value).IsNil", "internal/reflectlite.TypeOf", "(internal/reflectlite.Value).Elem", "(internal/reflectlite.Value).Set"], unfollowed := true, recurses := true, named := ["sternpost/opts.order", "errors.errorType"], apart := false, laid := [("errors.errorType", laid_errors_errorType), ("sternpost/opts.order", laid_sternpost_opts_order)] }
def ParseFramesSaid : Prop := parseFramesRow.holds Tryz.pinned (OpenSpec.ofChange parseFramesSpec)

/-- ITS FALSE NEIGHBOUR: 'it returns false'. Refute it at one input. -/
def parseFramesWrong : ChangeSpec := { name := "parseFrames", fn := fun _ => fun
  | [d] => { results := [.lit (.bool false)], args := [d] }
  | _ => none }
def ParseFramesWrongFalsely : Prop := parseFramesRow.holds Tryz.pinned (OpenSpec.ofChange parseFramesWrong)

/-- 'sternpostlaw09.ParseInner': WHATEVER THE INPUT: true; the input reads as it did. -/
def parseInnerSpec : ChangeSpec := { name := "parseInner", fn := fun _ => fun
  | [d1, d2] => { results := [.lit (.bool true)], args := [d1, d2] }
  | _ => none }
def parseInnerRow : OpenClaim := { program := "ytkpdmgoldngdaaagreatdoor", sum := "4d0a5679203f645307dcec4e608946979e911a1ada2e84c6b94fe456a6bc7de4", func := "sternpost/sternpostlaw09.ParseInner", spec := "parseInner", inPlace := ["internal/reflectlite.ValueOf", "(internal/reflectlite.Value).Type", "(internal/reflectlite.Value).IsNil", "internal/reflectlite.TypeOf", "(internal/reflectlite.Value).Elem", "(internal/reflectlite.Value).Set"], unfollowed := true, recurses := true, named := ["sternpost/opts.order", "errors.errorType"], apart := false, laid := [("errors.errorType", laid_errors_errorType), ("sternpost/opts.order", laid_sternpost_opts_order)] }
def ParseInnerSaid : Prop := parseInnerRow.holds Tryz.pinned (OpenSpec.ofChange parseInnerSpec)

/-- ITS FALSE NEIGHBOUR: 'it returns false'. Refute it at one input. -/
def parseInnerWrong : ChangeSpec := { name := "parseInner", fn := fun _ => fun
  | [d1, d2] => { results := [.lit (.bool false)], args := [d1, d2] }
  | _ => none }
def ParseInnerWrongFalsely : Prop := parseInnerRow.holds Tryz.pinned (OpenSpec.ofChange parseInnerWrong)

/-- 'sternpostlaw09.ParseOthers': WHATEVER THE INPUT: true; the input reads as it did. -/
def parseOthersSpec : ChangeSpec := { name := "parseOthers", fn := fun _ => fun
  | [d1, d2] => { results := [.lit (.bool true)], args := [d1, d2] }
  | _ => none }
def parseOthersRow : OpenClaim := { program := "ytkpdmgoldngdaaagreatdoor", sum := "4d0a5679203f645307dcec4e608946979e911a1ada2e84c6b94fe456a6bc7de4", func := "sternpost/sternpostlaw09.ParseOthers", spec := "parseOthers", inPlace := ["internal/reflectlite.ValueOf", "(internal/reflectlite.Value).Type", "(internal/reflectlite.Value).IsNil", "internal/reflectlite.TypeOf", "(internal/reflectlite.Value).Elem", "(internal/reflectlite.Value).Set"], unfollowed := true, recurses := true, named := ["sternpost/opts.order", "errors.errorType"], apart := false, laid := [("errors.errorType", laid_errors_errorType), ("sternpost/opts.order", laid_sternpost_opts_order)] }
def ParseOthersSaid : Prop := parseOthersRow.holds Tryz.pinned (OpenSpec.ofChange parseOthersSpec)

/-- ITS FALSE NEIGHBOUR: 'it returns false'. Refute it at one input. -/
def parseOthersWrong : ChangeSpec := { name := "parseOthers", fn := fun _ => fun
  | [d1, d2] => { results := [.lit (.bool false)], args := [d1, d2] }
  | _ => none }
def ParseOthersWrongFalsely : Prop := parseOthersRow.holds Tryz.pinned (OpenSpec.ofChange parseOthersWrong)

/-- 'sternpostlaw09.ParseSegments': WHATEVER THE INPUT: true; the input reads as it did. -/
def parseSegmentsSpec : ChangeSpec := { name := "parseSegments", fn := fun _ => fun
  | [d1, d2, d3] => { results := [.lit (.bool true)], args := [d1, d2, d3] }
  | _ => none }
def parseSegmentsRow : OpenClaim := { program := "ytkpdmgoldngdaaagreatdoor", sum := "4d0a5679203f645307dcec4e608946979e911a1ada2e84c6b94fe456a6bc7de4", func := "sternpost/sternpostlaw09.ParseSegments", spec := "parseSegments", inPlace := ["internal/reflectlite.ValueOf", "(internal/reflectlite.Value).Type", "(internal/reflectlite.Value).IsNil", "internal/reflectlite.TypeOf", "(internal/reflectlite.Value).Elem", "(internal/reflectlite.Value).Set", "internal/abi.NoEscape", "internal/bytealg.MakeNoZero"], unfollowed := true, recurses := true, named := ["sternpost/opts.order", "errors.errorType"], apart := false, laid := [("errors.errorType", laid_errors_errorType), ("sternpost/opts.order", laid_sternpost_opts_order)] }
def ParseSegmentsSaid : Prop := parseSegmentsRow.holds Tryz.pinned (OpenSpec.ofChange parseSegmentsSpec)

/-- ITS FALSE NEIGHBOUR: 'it returns false'. Refute it at one input. -/
def parseSegmentsWrong : ChangeSpec := { name := "parseSegments", fn := fun _ => fun
  | [d1, d2, d3] => { results := [.lit (.bool false)], args := [d1, d2, d3] }
  | _ => none }
def ParseSegmentsWrongFalsely : Prop := parseSegmentsRow.holds Tryz.pinned (OpenSpec.ofChange parseSegmentsWrong)

/-- 'sternpostlaw09.ParseMessages': WHATEVER THE INPUT: true; the input reads as it did. -/
def parseMessagesSpec : ChangeSpec := { name := "parseMessages", fn := fun _ => fun
  | [d1, d2, d3] => { results := [.lit (.bool true)], args := [d1, d2, d3] }
  | _ => none }
def parseMessagesRow : OpenClaim := { program := "ytkpdmgoldngdaaagreatdoor", sum := "4d0a5679203f645307dcec4e608946979e911a1ada2e84c6b94fe456a6bc7de4", func := "sternpost/sternpostlaw09.ParseMessages", spec := "parseMessages", inPlace := ["internal/reflectlite.ValueOf", "(internal/reflectlite.Value).Type", "(internal/reflectlite.Value).IsNil", "internal/reflectlite.TypeOf", "(internal/reflectlite.Value).Elem", "(internal/reflectlite.Value).Set"], unfollowed := true, recurses := true, named := ["sternpost/opts.order", "errors.errorType"], apart := false, laid := [("errors.errorType", laid_errors_errorType), ("sternpost/opts.order", laid_sternpost_opts_order)] }
def ParseMessagesSaid : Prop := parseMessagesRow.holds Tryz.pinned (OpenSpec.ofChange parseMessagesSpec)

/-- ITS FALSE NEIGHBOUR: 'it returns false'. Refute it at one input. -/
def parseMessagesWrong : ChangeSpec := { name := "parseMessages", fn := fun _ => fun
  | [d1, d2, d3] => { results := [.lit (.bool false)], args := [d1, d2, d3] }
  | _ => none }
def ParseMessagesWrongFalsely : Prop := parseMessagesRow.holds Tryz.pinned (OpenSpec.ofChange parseMessagesWrong)

/-- 'sternpostlaw09.ParseInside': WHATEVER THE INPUT: true; the input reads as it did. -/
def parseInsideSpec : ChangeSpec := { name := "parseInside", fn := fun _ => fun
  | [d1, d2] => { results := [.lit (.bool true)], args := [d1, d2] }
  | _ => none }
def parseInsideRow : OpenClaim := { program := "ytkpdmgoldngdaaagreatdoor", sum := "4d0a5679203f645307dcec4e608946979e911a1ada2e84c6b94fe456a6bc7de4", func := "sternpost/sternpostlaw09.ParseInside", spec := "parseInside", inPlace := ["internal/reflectlite.ValueOf", "(internal/reflectlite.Value).Type", "(internal/reflectlite.Value).IsNil", "internal/reflectlite.TypeOf", "(internal/reflectlite.Value).Elem", "(internal/reflectlite.Value).Set"], unfollowed := true, recurses := true, named := ["sternpost/opts.order", "errors.errorType"], apart := false, laid := [("errors.errorType", laid_errors_errorType), ("sternpost/opts.order", laid_sternpost_opts_order)] }
def ParseInsideSaid : Prop := parseInsideRow.holds Tryz.pinned (OpenSpec.ofChange parseInsideSpec)

/-- ITS FALSE NEIGHBOUR: 'it returns false'. Refute it at one input. -/
def parseInsideWrong : ChangeSpec := { name := "parseInside", fn := fun _ => fun
  | [d1, d2] => { results := [.lit (.bool false)], args := [d1, d2] }
  | _ => none }
def ParseInsideWrongFalsely : Prop := parseInsideRow.holds Tryz.pinned (OpenSpec.ofChange parseInsideWrong)

/- THE SECOND FORM. 'bulk': how many values and letters a reading holds, each counted each time it is reached (what is shared counts as often as it is met; a slice's spare places count too). A statement '..UptoSaid' is the law's where the arguments, and the package variables that the reading takes, are together of bulk at most 1048576: NARROWER than '..Said'. Prove '..Said' where nothing that the law and all that it calls make is longer than what came in: it says more and counts as full. Else prove '..UptoSaid'. A law counts once. -/
mutual
def uptoBulk {H : Type} : DataW H → Nat
  | .lit (.string bytes) => bytes.length + 1
  | .lit _ => 1
  | .nil => 1
  | .ptr d => uptoBulk d + 1
  | .slice elems spare => uptoBulkAll elems + uptoBulkAll spare + 1
  | .agg parts => uptoBulkAll parts + 1
  | .iface _ d => uptoBulk d + 1
  | .map entries => uptoBulkEntries entries + 1
  | .held _ => 1
def uptoBulkAll {H : Type} : List (DataW H) → Nat
  | [] => 0
  | d :: r => uptoBulk d + uptoBulkAll r
def uptoBulkEntries {H : Type} : List (Lit × DataW H) → Nat
  | [] => 0
  | x :: r => uptoBulkEntry x + uptoBulkEntries r
def uptoBulkEntry {H : Type} : Lit × DataW H → Nat
  | (.string bytes, d) => bytes.length + uptoBulk d + 1
  | (_, d) => uptoBulk d + 1
 end
def uptoSmall : (H : Type) → List (DataW H) → Bool := fun _ ds => decide (uptoBulkAll ds ≤ 1048576)
def OpenSpec.upto (s : _root_.Go.ChangeSpec) : _root_.Go.OpenSpec := { _root_.Go.OpenSpec.ofChange s with cond := some uptoSmall }

/-- 'sternpostlaw09.ParseFrames', WHERE WHAT IT READS IS OF BULK AT MOST 1048576: true; the input reads as it did. -/
def parseFramesUptoRow : OpenClaim := { program := "ytkpdmgoldngdaaagreatdoor", sum := "4d0a5679203f645307dcec4e608946979e911a1ada2e84c6b94fe456a6bc7de4", func := "sternpost/sternpostlaw09.ParseFrames", spec := "parseFrames", inPlace := ["internal/reflectlite.ValueOf", "(internal/reflectlite.Value).Type", "(internal/reflectlite.Value).IsNil", "internal/reflectlite.TypeOf", "(internal/reflectlite.Value).Elem", "(internal/reflectlite.Value).Set"], unfollowed := true, recurses := true, named := ["sternpost/opts.order", "errors.errorType"], apart := false, laid := [("errors.errorType", laid_errors_errorType), ("sternpost/opts.order", laid_sternpost_opts_order)], narrowed := true }
def ParseFramesUptoSaid : Prop := parseFramesUptoRow.holds Tryz.pinned (OpenSpec.upto parseFramesSpec)

/-- 'sternpostlaw09.ParseInner', WHERE WHAT IT READS IS OF BULK AT MOST 1048576: true; the input reads as it did. -/
def parseInnerUptoRow : OpenClaim := { program := "ytkpdmgoldngdaaagreatdoor", sum := "4d0a5679203f645307dcec4e608946979e911a1ada2e84c6b94fe456a6bc7de4", func := "sternpost/sternpostlaw09.ParseInner", spec := "parseInner", inPlace := ["internal/reflectlite.ValueOf", "(internal/reflectlite.Value).Type", "(internal/reflectlite.Value).IsNil", "internal/reflectlite.TypeOf", "(internal/reflectlite.Value).Elem", "(internal/reflectlite.Value).Set"], unfollowed := true, recurses := true, named := ["sternpost/opts.order", "errors.errorType"], apart := false, laid := [("errors.errorType", laid_errors_errorType), ("sternpost/opts.order", laid_sternpost_opts_order)], narrowed := true }
def ParseInnerUptoSaid : Prop := parseInnerUptoRow.holds Tryz.pinned (OpenSpec.upto parseInnerSpec)

/-- 'sternpostlaw09.ParseOthers', WHERE WHAT IT READS IS OF BULK AT MOST 1048576: true; the input reads as it did. -/
def parseOthersUptoRow : OpenClaim := { program := "ytkpdmgoldngdaaagreatdoor", sum := "4d0a5679203f645307dcec4e608946979e911a1ada2e84c6b94fe456a6bc7de4", func := "sternpost/sternpostlaw09.ParseOthers", spec := "parseOthers", inPlace := ["internal/reflectlite.ValueOf", "(internal/reflectlite.Value).Type", "(internal/reflectlite.Value).IsNil", "internal/reflectlite.TypeOf", "(internal/reflectlite.Value).Elem", "(internal/reflectlite.Value).Set"], unfollowed := true, recurses := true, named := ["sternpost/opts.order", "errors.errorType"], apart := false, laid := [("errors.errorType", laid_errors_errorType), ("sternpost/opts.order", laid_sternpost_opts_order)], narrowed := true }
def ParseOthersUptoSaid : Prop := parseOthersUptoRow.holds Tryz.pinned (OpenSpec.upto parseOthersSpec)

/-- 'sternpostlaw09.ParseSegments', WHERE WHAT IT READS IS OF BULK AT MOST 1048576: true; the input reads as it did. -/
def parseSegmentsUptoRow : OpenClaim := { program := "ytkpdmgoldngdaaagreatdoor", sum := "4d0a5679203f645307dcec4e608946979e911a1ada2e84c6b94fe456a6bc7de4", func := "sternpost/sternpostlaw09.ParseSegments", spec := "parseSegments", inPlace := ["internal/reflectlite.ValueOf", "(internal/reflectlite.Value).Type", "(internal/reflectlite.Value).IsNil", "internal/reflectlite.TypeOf", "(internal/reflectlite.Value).Elem", "(internal/reflectlite.Value).Set", "internal/abi.NoEscape", "internal/bytealg.MakeNoZero"], unfollowed := true, recurses := true, named := ["sternpost/opts.order", "errors.errorType"], apart := false, laid := [("errors.errorType", laid_errors_errorType), ("sternpost/opts.order", laid_sternpost_opts_order)], narrowed := true }
def ParseSegmentsUptoSaid : Prop := parseSegmentsUptoRow.holds Tryz.pinned (OpenSpec.upto parseSegmentsSpec)

/-- 'sternpostlaw09.ParseMessages', WHERE WHAT IT READS IS OF BULK AT MOST 1048576: true; the input reads as it did. -/
def parseMessagesUptoRow : OpenClaim := { program := "ytkpdmgoldngdaaagreatdoor", sum := "4d0a5679203f645307dcec4e608946979e911a1ada2e84c6b94fe456a6bc7de4", func := "sternpost/sternpostlaw09.ParseMessages", spec := "parseMessages", inPlace := ["internal/reflectlite.ValueOf", "(internal/reflectlite.Value).Type", "(internal/reflectlite.Value).IsNil", "internal/reflectlite.TypeOf", "(internal/reflectlite.Value).Elem", "(internal/reflectlite.Value).Set"], unfollowed := true, recurses := true, named := ["sternpost/opts.order", "errors.errorType"], apart := false, laid := [("errors.errorType", laid_errors_errorType), ("sternpost/opts.order", laid_sternpost_opts_order)], narrowed := true }
def ParseMessagesUptoSaid : Prop := parseMessagesUptoRow.holds Tryz.pinned (OpenSpec.upto parseMessagesSpec)

/-- 'sternpostlaw09.ParseInside', WHERE WHAT IT READS IS OF BULK AT MOST 1048576: true; the input reads as it did. -/
def parseInsideUptoRow : OpenClaim := { program := "ytkpdmgoldngdaaagreatdoor", sum := "4d0a5679203f645307dcec4e608946979e911a1ada2e84c6b94fe456a6bc7de4", func := "sternpost/sternpostlaw09.ParseInside", spec := "parseInside", inPlace := ["internal/reflectlite.ValueOf", "(internal/reflectlite.Value).Type", "(internal/reflectlite.Value).IsNil", "internal/reflectlite.TypeOf", "(internal/reflectlite.Value).Elem", "(internal/reflectlite.Value).Set"], unfollowed := true, recurses := true, named := ["sternpost/opts.order", "errors.errorType"], apart := false, laid := [("errors.errorType", laid_errors_errorType), ("sternpost/opts.order", laid_sternpost_opts_order)], narrowed := true }
def ParseInsideUptoSaid : Prop := parseInsideUptoRow.holds Tryz.pinned (OpenSpec.upto parseInsideSpec)

end Rows
end Go.Proofs.YtkpdmgoldngdaaaGreatDoor
