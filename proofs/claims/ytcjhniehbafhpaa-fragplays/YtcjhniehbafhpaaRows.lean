/-
  No cell of these rows narrows 'for every input' (looked for: loops, veiled, ifaces, maps, wideKeys, modest, calm, conditions, laid).
  DERIVED. THE GIVEN ROWS OF THIS SEAT. 4 by the template 'for every input the law returns true; each argument reads behind the call as it read before'; 0 by the template 'total and deterministic' (their statements: YtcjhniehbafhpaaTotals.lean).
  GIVEN WITH THE SEED: the statements are not yours to turn. If you find one false, say at which input.
  Laid BY PROGRAM, IN A SANDBOX (cutbox-rows.mjs): the forced cells as the released guide's own fill.sh prints them over the translation db5b52fa6caf20c0… (all of the seat's roots in one cut). By AI agents, Wed Nov 11 2026. No macro, syntax, notation, axiom, sorry.
-/
import Derived.Test.YtcjhniehbafhpaaChecked
import GoSem.Claim
import GoSem.ClaimJoined
import GoSem.ClaimMapViews
import Derived.JoinedTies
import Derived.KernelRfl
namespace Go.Proofs.Ytcjhniehbafhpaa
/- THE CELL 'sum', in the pinned program and in every row, IS THE sha256 OF THE DUMP (.gsa) THAT YtcjhniehbafhpaaProg.lean LOADS. Nothing in Lean hashes anything: it is a label: what it is worth is what the hold of that sum in a sandbox is worth. -/
noncomputable def Try.pinned : Pinned := { name := "ytcjhniehbafhpaa", sum := "db5b52fa6caf20c07b88efaaee4d6eb47a818221cb77b2511d1d5e6df9dde818", checked := Try.checked }
namespace Rows
def none {H : Type} : Left H := { results := [], args := [] }

/-- 'sternpostlaw12.FragPlays': WHATEVER THE INPUT: true; the input reads as it did. -/
def fragPlaysSpec : ChangeSpec := { name := "fragPlays", fn := fun _ => fun
  | [d1, d2, d3] => { results := [.lit (.bool true)], args := [d1, d2, d3] }
  | _ => none }
def fragPlaysRow : OpenClaim := { program := "ytcjhniehbafhpaa", sum := "db5b52fa6caf20c07b88efaaee4d6eb47a818221cb77b2511d1d5e6df9dde818", func := "sternpost/sternpostlaw12.FragPlays", spec := "fragPlays", inPlace := ["slices.overlaps[sternpost/api.Packet]", "internal/abi.NoEscape"], unfollowed := true, recurses := true, plainKeys := false, apart := false }
def FragPlaysSaid : Prop := fragPlaysRow.holds Try.pinned (OpenSpec.ofChange fragPlaysSpec)

/-- ITS FALSE NEIGHBOUR: 'it returns false'. Refute it at one input. -/
def fragPlaysWrong : ChangeSpec := { name := "fragPlays", fn := fun _ => fun
  | [d1, d2, d3] => { results := [.lit (.bool false)], args := [d1, d2, d3] }
  | _ => none }
def FragPlaysWrongFalsely : Prop := fragPlaysRow.holds Try.pinned (OpenSpec.ofChange fragPlaysWrong)

/-- 'sternpostlaw12.FragBack': WHATEVER THE INPUT: true; the input reads as it did. -/
def fragBackSpec : ChangeSpec := { name := "fragBack", fn := fun _ => fun
  | [d1, d2, d3] => { results := [.lit (.bool true)], args := [d1, d2, d3] }
  | _ => none }
def fragBackRow : OpenClaim := { program := "ytcjhniehbafhpaa", sum := "db5b52fa6caf20c07b88efaaee4d6eb47a818221cb77b2511d1d5e6df9dde818", func := "sternpost/sternpostlaw12.FragBack", spec := "fragBack", inPlace := ["slices.overlaps[sternpost/api.Packet]", "internal/abi.NoEscape"], unfollowed := true, recurses := true, plainKeys := false, apart := false }
def FragBackSaid : Prop := fragBackRow.holds Try.pinned (OpenSpec.ofChange fragBackSpec)

/-- ITS FALSE NEIGHBOUR: 'it returns false'. Refute it at one input. -/
def fragBackWrong : ChangeSpec := { name := "fragBack", fn := fun _ => fun
  | [d1, d2, d3] => { results := [.lit (.bool false)], args := [d1, d2, d3] }
  | _ => none }
def FragBackWrongFalsely : Prop := fragBackRow.holds Try.pinned (OpenSpec.ofChange fragBackWrong)

/-- 'sternpostlaw12.FragLate': WHATEVER THE INPUT: true; the input reads as it did. -/
def fragLateSpec : ChangeSpec := { name := "fragLate", fn := fun _ => fun
  | [d1, d2] => { results := [.lit (.bool true)], args := [d1, d2] }
  | _ => none }
def fragLateRow : OpenClaim := { program := "ytcjhniehbafhpaa", sum := "db5b52fa6caf20c07b88efaaee4d6eb47a818221cb77b2511d1d5e6df9dde818", func := "sternpost/sternpostlaw12.FragLate", spec := "fragLate", inPlace := ["slices.overlaps[sternpost/api.Packet]", "internal/abi.NoEscape"], unfollowed := true, recurses := true, plainKeys := false, apart := false }
def FragLateSaid : Prop := fragLateRow.holds Try.pinned (OpenSpec.ofChange fragLateSpec)

/-- ITS FALSE NEIGHBOUR: 'it returns false'. Refute it at one input. -/
def fragLateWrong : ChangeSpec := { name := "fragLate", fn := fun _ => fun
  | [d1, d2] => { results := [.lit (.bool false)], args := [d1, d2] }
  | _ => none }
def FragLateWrongFalsely : Prop := fragLateRow.holds Try.pinned (OpenSpec.ofChange fragLateWrong)

/-- 'sternpostlaw12.FragMixed': WHATEVER THE INPUT: true; the input reads as it did. -/
def fragMixedSpec : ChangeSpec := { name := "fragMixed", fn := fun _ => fun
  | [d1, d2, d3] => { results := [.lit (.bool true)], args := [d1, d2, d3] }
  | _ => none }
def fragMixedRow : OpenClaim := { program := "ytcjhniehbafhpaa", sum := "db5b52fa6caf20c07b88efaaee4d6eb47a818221cb77b2511d1d5e6df9dde818", func := "sternpost/sternpostlaw12.FragMixed", spec := "fragMixed", inPlace := ["slices.overlaps[sternpost/api.Packet]", "internal/abi.NoEscape"], unfollowed := true, recurses := true, plainKeys := false, apart := false }
def FragMixedSaid : Prop := fragMixedRow.holds Try.pinned (OpenSpec.ofChange fragMixedSpec)

/-- ITS FALSE NEIGHBOUR: 'it returns false'. Refute it at one input. -/
def fragMixedWrong : ChangeSpec := { name := "fragMixed", fn := fun _ => fun
  | [d1, d2, d3] => { results := [.lit (.bool false)], args := [d1, d2, d3] }
  | _ => none }
def FragMixedWrongFalsely : Prop := fragMixedRow.holds Try.pinned (OpenSpec.ofChange fragMixedWrong)

/- THE SECOND FORM. 'bulk': how many values and letters a reading holds, each counted each time it is reached (what is shared counts as often as it is met; a slice's spare places count too). A statement '..UptoSaid' is the law's where the arguments, and the package variables that the reading takes, are together of bulk at most 1048576: NARROWER than '..Said'. Prove '..Said' where nothing that the law and all that it calls make is longer than what came in: it says more and counts as full. Else prove '..UptoSaid'. A law counts once. -/
mutual
def uptoBulk {H : Type} : DataW H → Nat
  | .lit (.string bytes) => bytes.length + 1
  | .lit _ => 1
  | .nil => 1
  | .ptr d => uptoBulk d + 1
  | .slice elems spare => uptoBulkAll elems + uptoBulkAll spare + 1
  | .agg parts => uptoBulkAll parts + 1
  | .iface _ d => uptoBulk d + 1
  | .map entries => uptoBulkEntries entries + 1
  | .held _ => 1
def uptoBulkAll {H : Type} : List (DataW H) → Nat
  | [] => 0
  | d :: r => uptoBulk d + uptoBulkAll r
def uptoBulkEntries {H : Type} : List (Lit × DataW H) → Nat
  | [] => 0
  | x :: r => uptoBulkEntry x + uptoBulkEntries r
def uptoBulkEntry {H : Type} : Lit × DataW H → Nat
  | (.string bytes, d) => bytes.length + uptoBulk d + 1
  | (_, d) => uptoBulk d + 1
 end
def uptoSmall : (H : Type) → List (DataW H) → Bool := fun _ ds => decide (uptoBulkAll ds ≤ 1048576)
def OpenSpec.upto (s : _root_.Go.ChangeSpec) : _root_.Go.OpenSpec := { _root_.Go.OpenSpec.ofChange s with cond := some uptoSmall }

/-- 'sternpostlaw12.FragPlays', WHERE WHAT IT READS IS OF BULK AT MOST 1048576: true; the input reads as it did. -/
def fragPlaysUptoRow : OpenClaim := { program := "ytcjhniehbafhpaa", sum := "db5b52fa6caf20c07b88efaaee4d6eb47a818221cb77b2511d1d5e6df9dde818", func := "sternpost/sternpostlaw12.FragPlays", spec := "fragPlays", inPlace := ["slices.overlaps[sternpost/api.Packet]", "internal/abi.NoEscape"], unfollowed := true, recurses := true, plainKeys := false, apart := false, narrowed := true }
def FragPlaysUptoSaid : Prop := fragPlaysUptoRow.holds Try.pinned (OpenSpec.upto fragPlaysSpec)

/-- 'sternpostlaw12.FragBack', WHERE WHAT IT READS IS OF BULK AT MOST 1048576: true; the input reads as it did. -/
def fragBackUptoRow : OpenClaim := { program := "ytcjhniehbafhpaa", sum := "db5b52fa6caf20c07b88efaaee4d6eb47a818221cb77b2511d1d5e6df9dde818", func := "sternpost/sternpostlaw12.FragBack", spec := "fragBack", inPlace := ["slices.overlaps[sternpost/api.Packet]", "internal/abi.NoEscape"], unfollowed := true, recurses := true, plainKeys := false, apart := false, narrowed := true }
def FragBackUptoSaid : Prop := fragBackUptoRow.holds Try.pinned (OpenSpec.upto fragBackSpec)

/-- 'sternpostlaw12.FragLate', WHERE WHAT IT READS IS OF BULK AT MOST 1048576: true; the input reads as it did. -/
def fragLateUptoRow : OpenClaim := { program := "ytcjhniehbafhpaa", sum := "db5b52fa6caf20c07b88efaaee4d6eb47a818221cb77b2511d1d5e6df9dde818", func := "sternpost/sternpostlaw12.FragLate", spec := "fragLate", inPlace := ["slices.overlaps[sternpost/api.Packet]", "internal/abi.NoEscape"], unfollowed := true, recurses := true, plainKeys := false, apart := false, narrowed := true }
def FragLateUptoSaid : Prop := fragLateUptoRow.holds Try.pinned (OpenSpec.upto fragLateSpec)

/-- 'sternpostlaw12.FragMixed', WHERE WHAT IT READS IS OF BULK AT MOST 1048576: true; the input reads as it did. -/
def fragMixedUptoRow : OpenClaim := { program := "ytcjhniehbafhpaa", sum := "db5b52fa6caf20c07b88efaaee4d6eb47a818221cb77b2511d1d5e6df9dde818", func := "sternpost/sternpostlaw12.FragMixed", spec := "fragMixed", inPlace := ["slices.overlaps[sternpost/api.Packet]", "internal/abi.NoEscape"], unfollowed := true, recurses := true, plainKeys := false, apart := false, narrowed := true }
def FragMixedUptoSaid : Prop := fragMixedUptoRow.holds Try.pinned (OpenSpec.upto fragMixedSpec)

end Rows
end Go.Proofs.Ytcjhniehbafhpaa
