/-
  No cell of these rows narrows 'for every input' (looked for: loops, veiled, ifaces, maps, wideKeys, modest, calm, conditions, laid).
  DERIVED. THE GIVEN ROWS OF THIS SEAT. 4 by the template 'for every input the law returns true; each argument reads behind the call as it read before'; 0 by the template 'total and deterministic' (their statements: YthjfchjfkehkdaaTotals.lean).
  GIVEN WITH THE SEED: the statements are not yours to turn. If you find one false, say at which input.
  Laid BY PROGRAM, IN A SANDBOX (cutbox-rows.mjs): the forced cells as the released guide's own fill.sh prints them over the translation 3d6485250df5c8e1… (all of the seat's roots in one cut). By AI agents, Wed Nov 11 2026. No macro, syntax, notation, axiom, sorry.
-/
import Derived.Test.YthjfchjfkehkdaaChecked
import GoSem.Claim
import GoSem.ClaimJoined
import GoSem.ClaimMapViews
import Derived.JoinedTies
import Derived.KernelRfl
namespace Go.Proofs.Ythjfchjfkehkdaa
/- THE CELL 'sum', in the pinned program and in every row, IS THE sha256 OF THE DUMP (.gsa) THAT YthjfchjfkehkdaaProg.lean LOADS. Nothing in Lean hashes anything: it is a label: what it is worth is what the hold of that sum in a sandbox is worth. -/
noncomputable def Try.pinned : Pinned := { name := "ythjfchjfkehkdaa", sum := "3d6485250df5c8e19e3cf2ea950d67d4665e72d0a75439f92a7166269c515bbc", checked := Try.checked }
namespace Rows
def none {H : Type} : Left H := { results := [], args := [] }

/-- 'sternpostlaw01.SeqReckons': WHATEVER THE INPUT: true; the input reads as it did. -/
def seqReckonsSpec : ChangeSpec := { name := "seqReckons", fn := fun _ => fun
  | [d1, d2] => { results := [.lit (.bool true)], args := [d1, d2] }
  | _ => none }
def seqReckonsRow : OpenClaim := { program := "ythjfchjfkehkdaa", sum := "3d6485250df5c8e19e3cf2ea950d67d4665e72d0a75439f92a7166269c515bbc", func := "sternpost/sternpostlaw01.SeqReckons", spec := "seqReckons", apart := false }
def SeqReckonsSaid : Prop := seqReckonsRow.holds Try.pinned (OpenSpec.ofChange seqReckonsSpec)

/-- ITS FALSE NEIGHBOUR: 'it returns false'. Refute it at one input. -/
def seqReckonsWrong : ChangeSpec := { name := "seqReckons", fn := fun _ => fun
  | [d1, d2] => { results := [.lit (.bool false)], args := [d1, d2] }
  | _ => none }
def SeqReckonsWrongFalsely : Prop := seqReckonsRow.holds Try.pinned (OpenSpec.ofChange seqReckonsWrong)

/-- 'sternpostlaw01.SeqWindows': WHATEVER THE INPUT: true; the input reads as it did. -/
def seqWindowsSpec : ChangeSpec := { name := "seqWindows", fn := fun _ => fun
  | [d1, d2, d3] => { results := [.lit (.bool true)], args := [d1, d2, d3] }
  | _ => none }
def seqWindowsRow : OpenClaim := { program := "ythjfchjfkehkdaa", sum := "3d6485250df5c8e19e3cf2ea950d67d4665e72d0a75439f92a7166269c515bbc", func := "sternpost/sternpostlaw01.SeqWindows", spec := "seqWindows", apart := false }
def SeqWindowsSaid : Prop := seqWindowsRow.holds Try.pinned (OpenSpec.ofChange seqWindowsSpec)

/-- ITS FALSE NEIGHBOUR: 'it returns false'. Refute it at one input. -/
def seqWindowsWrong : ChangeSpec := { name := "seqWindows", fn := fun _ => fun
  | [d1, d2, d3] => { results := [.lit (.bool false)], args := [d1, d2, d3] }
  | _ => none }
def SeqWindowsWrongFalsely : Prop := seqWindowsRow.holds Try.pinned (OpenSpec.ofChange seqWindowsWrong)

/-- 'sternpostlaw01.SeqRound': WHATEVER THE INPUT: true; the input reads as it did. -/
def seqRoundSpec : ChangeSpec := { name := "seqRound", fn := fun _ => fun
  | [d1, d2, d3] => { results := [.lit (.bool true)], args := [d1, d2, d3] }
  | _ => none }
def seqRoundRow : OpenClaim := { program := "ythjfchjfkehkdaa", sum := "3d6485250df5c8e19e3cf2ea950d67d4665e72d0a75439f92a7166269c515bbc", func := "sternpost/sternpostlaw01.SeqRound", spec := "seqRound", apart := false }
def SeqRoundSaid : Prop := seqRoundRow.holds Try.pinned (OpenSpec.ofChange seqRoundSpec)

/-- ITS FALSE NEIGHBOUR: 'it returns false'. Refute it at one input. -/
def seqRoundWrong : ChangeSpec := { name := "seqRound", fn := fun _ => fun
  | [d1, d2, d3] => { results := [.lit (.bool false)], args := [d1, d2, d3] }
  | _ => none }
def SeqRoundWrongFalsely : Prop := seqRoundRow.holds Try.pinned (OpenSpec.ofChange seqRoundWrong)

/-- 'sternpostlaw01.SeqCuts': WHATEVER THE INPUT: true; the input reads as it did. -/
def seqCutsSpec : ChangeSpec := { name := "seqCuts", fn := fun _ => fun
  | [d1, d2, d3] => { results := [.lit (.bool true)], args := [d1, d2, d3] }
  | _ => none }
def seqCutsRow : OpenClaim := { program := "ythjfchjfkehkdaa", sum := "3d6485250df5c8e19e3cf2ea950d67d4665e72d0a75439f92a7166269c515bbc", func := "sternpost/sternpostlaw01.SeqCuts", spec := "seqCuts", apart := false }
def SeqCutsSaid : Prop := seqCutsRow.holds Try.pinned (OpenSpec.ofChange seqCutsSpec)

/-- ITS FALSE NEIGHBOUR: 'it returns false'. Refute it at one input. -/
def seqCutsWrong : ChangeSpec := { name := "seqCuts", fn := fun _ => fun
  | [d1, d2, d3] => { results := [.lit (.bool false)], args := [d1, d2, d3] }
  | _ => none }
def SeqCutsWrongFalsely : Prop := seqCutsRow.holds Try.pinned (OpenSpec.ofChange seqCutsWrong)

/- THE SECOND FORM. 'bulk': how many values and letters a reading holds, each counted each time it is reached (what is shared counts as often as it is met; a slice's spare places count too). A statement '..UptoSaid' is the law's where the arguments, and the package variables that the reading takes, are together of bulk at most 1048576: NARROWER than '..Said'. Prove '..Said' where nothing that the law and all that it calls make is longer than what came in: it says more and counts as full. Else prove '..UptoSaid'. A law counts once. -/
mutual
def uptoBulk {H : Type} : DataW H → Nat
  | .lit (.string bytes) => bytes.length + 1
  | .lit _ => 1
  | .nil => 1
  | .ptr d => uptoBulk d + 1
  | .slice elems spare => uptoBulkAll elems + uptoBulkAll spare + 1
  | .agg parts => uptoBulkAll parts + 1
  | .iface _ d => uptoBulk d + 1
  | .map entries => uptoBulkEntries entries + 1
  | .held _ => 1
def uptoBulkAll {H : Type} : List (DataW H) → Nat
  | [] => 0
  | d :: r => uptoBulk d + uptoBulkAll r
def uptoBulkEntries {H : Type} : List (Lit × DataW H) → Nat
  | [] => 0
  | x :: r => uptoBulkEntry x + uptoBulkEntries r
def uptoBulkEntry {H : Type} : Lit × DataW H → Nat
  | (.string bytes, d) => bytes.length + uptoBulk d + 1
  | (_, d) => uptoBulk d + 1
 end
def uptoSmall : (H : Type) → List (DataW H) → Bool := fun _ ds => decide (uptoBulkAll ds ≤ 1048576)
def OpenSpec.upto (s : _root_.Go.ChangeSpec) : _root_.Go.OpenSpec := { _root_.Go.OpenSpec.ofChange s with cond := some uptoSmall }

/-- 'sternpostlaw01.SeqReckons', WHERE WHAT IT READS IS OF BULK AT MOST 1048576: true; the input reads as it did. -/
def seqReckonsUptoRow : OpenClaim := { program := "ythjfchjfkehkdaa", sum := "3d6485250df5c8e19e3cf2ea950d67d4665e72d0a75439f92a7166269c515bbc", func := "sternpost/sternpostlaw01.SeqReckons", spec := "seqReckons", apart := false, narrowed := true }
def SeqReckonsUptoSaid : Prop := seqReckonsUptoRow.holds Try.pinned (OpenSpec.upto seqReckonsSpec)

/-- 'sternpostlaw01.SeqWindows', WHERE WHAT IT READS IS OF BULK AT MOST 1048576: true; the input reads as it did. -/
def seqWindowsUptoRow : OpenClaim := { program := "ythjfchjfkehkdaa", sum := "3d6485250df5c8e19e3cf2ea950d67d4665e72d0a75439f92a7166269c515bbc", func := "sternpost/sternpostlaw01.SeqWindows", spec := "seqWindows", apart := false, narrowed := true }
def SeqWindowsUptoSaid : Prop := seqWindowsUptoRow.holds Try.pinned (OpenSpec.upto seqWindowsSpec)

/-- 'sternpostlaw01.SeqRound', WHERE WHAT IT READS IS OF BULK AT MOST 1048576: true; the input reads as it did. -/
def seqRoundUptoRow : OpenClaim := { program := "ythjfchjfkehkdaa", sum := "3d6485250df5c8e19e3cf2ea950d67d4665e72d0a75439f92a7166269c515bbc", func := "sternpost/sternpostlaw01.SeqRound", spec := "seqRound", apart := false, narrowed := true }
def SeqRoundUptoSaid : Prop := seqRoundUptoRow.holds Try.pinned (OpenSpec.upto seqRoundSpec)

/-- 'sternpostlaw01.SeqCuts', WHERE WHAT IT READS IS OF BULK AT MOST 1048576: true; the input reads as it did. -/
def seqCutsUptoRow : OpenClaim := { program := "ythjfchjfkehkdaa", sum := "3d6485250df5c8e19e3cf2ea950d67d4665e72d0a75439f92a7166269c515bbc", func := "sternpost/sternpostlaw01.SeqCuts", spec := "seqCuts", apart := false, narrowed := true }
def SeqCutsUptoSaid : Prop := seqCutsUptoRow.holds Try.pinned (OpenSpec.upto seqCutsSpec)

end Rows
end Go.Proofs.Ythjfchjfkehkdaa
