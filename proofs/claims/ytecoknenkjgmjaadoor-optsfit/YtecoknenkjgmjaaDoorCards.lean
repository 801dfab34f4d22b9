/-
  DERIVED. GIVEN WITH THE SEED: THE CARDS: each row of YtecoknenkjgmjaaDoorRows.lean that lists a variable, with what it lists TIED to the program's text (the seventh form; the later family's looks); each row that meets fmt, with fmt's text TOLD by the authors' own Lean function (tested against real Go, not proved from fmt's source: count such statements apart). THE CARD IS WHAT COUNTS. Prove the row's statement (the work); the ties are given (YtecoknenkjgmjaaDoorTie.lean); close each card by the builder's one call (the guide's Derived/Test/ToyasCard.lean, 'card_holds'). Laid BY PROGRAM, IN A SANDBOX (cutbox-door.mjs). By AI agents, Wed Nov 11 2026. No macro, syntax, notation, axiom, sorry.
-/
import Derived.Test.YtecoknenkjgmjaaDoorRows
import GoSem.ClaimSeven
namespace Go.Proofs.YtecoknenkjgmjaaDoor
namespace Rows

/-- THE TIED CARD OF 'sternpostlaw07.OptsWrite'. -/
def optsWriteCard : Claim7 := { stood := { row := optsWriteRow, standIns := [], harness := (true, "b329e8443bf405fc7ec9c7f296bf5b15ced440c224d2249f857770d22ce70a43"), looks := false }, kinds := [], alts := [], laidByText := true, laidKinds := [.data], laidTests := true, laidLooks := .later }
def OptsWriteCardSaid : Prop := Claim7.holds Tryd.pinned (.plain (OpenSpec.ofChange optsWriteSpec)) optsWriteCard

/-- THE TIED CARD OF 'sternpostlaw07.OptsRead'. -/
def optsReadCard : Claim7 := { stood := { row := optsReadRow, standIns := [], harness := (true, "b329e8443bf405fc7ec9c7f296bf5b15ced440c224d2249f857770d22ce70a43"), looks := false }, kinds := [], alts := [], laidByText := true, laidKinds := [.data], laidTests := true, laidLooks := .later }
def OptsReadCardSaid : Prop := Claim7.holds Tryd.pinned (.plain (OpenSpec.ofChange optsReadSpec)) optsReadCard

/-- THE TIED CARD OF 'sternpostlaw07.OptsSame'. -/
def optsSameCard : Claim7 := { stood := { row := optsSameRow, standIns := [], harness := (true, "b329e8443bf405fc7ec9c7f296bf5b15ced440c224d2249f857770d22ce70a43"), looks := false }, kinds := [], alts := [], laidByText := true, laidKinds := [.data], laidTests := true, laidLooks := .later }
def OptsSameCardSaid : Prop := Claim7.holds Tryd.pinned (.plain (OpenSpec.ofChange optsSameSpec)) optsSameCard

/-- THE TIED CARD OF 'sternpostlaw07.OptsBack'. -/
def optsBackCard : Claim7 := { stood := { row := optsBackRow, standIns := [], harness := (true, "b329e8443bf405fc7ec9c7f296bf5b15ced440c224d2249f857770d22ce70a43"), looks := false }, kinds := [], alts := [], laidByText := true, laidKinds := [.data], laidTests := true, laidLooks := .later }
def OptsBackCardSaid : Prop := Claim7.holds Tryd.pinned (.plain (OpenSpec.ofChange optsBackSpec)) optsBackCard

/-- THE TIED CARD OF 'sternpostlaw07.OptsFit'. -/
def optsFitCard : Claim7 := { stood := { row := optsFitRow, standIns := [], harness := (true, "b329e8443bf405fc7ec9c7f296bf5b15ced440c224d2249f857770d22ce70a43"), looks := false }, kinds := [], alts := [], laidByText := true, laidKinds := [.data], laidTests := true, laidLooks := .later }
def OptsFitCardSaid : Prop := Claim7.holds Tryd.pinned (.plain (OpenSpec.ofChange optsFitSpec)) optsFitCard

/-- THE TIED CARD OF 'sternpostlaw07.OptsTail'. -/
def optsTailCard : Claim7 := { stood := { row := optsTailRow, standIns := [], harness := (true, "b329e8443bf405fc7ec9c7f296bf5b15ced440c224d2249f857770d22ce70a43"), looks := false }, kinds := [], alts := [], laidByText := true, laidKinds := [.data], laidTests := true, laidLooks := .later }
def OptsTailCardSaid : Prop := Claim7.holds Tryd.pinned (.plain (OpenSpec.ofChange optsTailSpec)) optsTailCard

/-- THE SECOND FORM's CARD OF 'sternpostlaw07.OptsWrite'. -/
def optsWriteUptoCard : Claim7 := { stood := { row := optsWriteUptoRow, standIns := [], harness := (true, "b329e8443bf405fc7ec9c7f296bf5b15ced440c224d2249f857770d22ce70a43"), looks := false }, kinds := [], alts := [], laidByText := true, laidKinds := [.data], laidTests := true, laidLooks := .later }
def OptsWriteUptoCardSaid : Prop := Claim7.holds Tryd.pinned (.plain (OpenSpec.upto optsWriteSpec)) optsWriteUptoCard

/-- THE SECOND FORM's CARD OF 'sternpostlaw07.OptsRead'. -/
def optsReadUptoCard : Claim7 := { stood := { row := optsReadUptoRow, standIns := [], harness := (true, "b329e8443bf405fc7ec9c7f296bf5b15ced440c224d2249f857770d22ce70a43"), looks := false }, kinds := [], alts := [], laidByText := true, laidKinds := [.data], laidTests := true, laidLooks := .later }
def OptsReadUptoCardSaid : Prop := Claim7.holds Tryd.pinned (.plain (OpenSpec.upto optsReadSpec)) optsReadUptoCard

/-- THE SECOND FORM's CARD OF 'sternpostlaw07.OptsSame'. -/
def optsSameUptoCard : Claim7 := { stood := { row := optsSameUptoRow, standIns := [], harness := (true, "b329e8443bf405fc7ec9c7f296bf5b15ced440c224d2249f857770d22ce70a43"), looks := false }, kinds := [], alts := [], laidByText := true, laidKinds := [.data], laidTests := true, laidLooks := .later }
def OptsSameUptoCardSaid : Prop := Claim7.holds Tryd.pinned (.plain (OpenSpec.upto optsSameSpec)) optsSameUptoCard

/-- THE SECOND FORM's CARD OF 'sternpostlaw07.OptsBack'. -/
def optsBackUptoCard : Claim7 := { stood := { row := optsBackUptoRow, standIns := [], harness := (true, "b329e8443bf405fc7ec9c7f296bf5b15ced440c224d2249f857770d22ce70a43"), looks := false }, kinds := [], alts := [], laidByText := true, laidKinds := [.data], laidTests := true, laidLooks := .later }
def OptsBackUptoCardSaid : Prop := Claim7.holds Tryd.pinned (.plain (OpenSpec.upto optsBackSpec)) optsBackUptoCard

/-- THE SECOND FORM's CARD OF 'sternpostlaw07.OptsFit'. -/
def optsFitUptoCard : Claim7 := { stood := { row := optsFitUptoRow, standIns := [], harness := (true, "b329e8443bf405fc7ec9c7f296bf5b15ced440c224d2249f857770d22ce70a43"), looks := false }, kinds := [], alts := [], laidByText := true, laidKinds := [.data], laidTests := true, laidLooks := .later }
def OptsFitUptoCardSaid : Prop := Claim7.holds Tryd.pinned (.plain (OpenSpec.upto optsFitSpec)) optsFitUptoCard

/-- THE SECOND FORM's CARD OF 'sternpostlaw07.OptsTail'. -/
def optsTailUptoCard : Claim7 := { stood := { row := optsTailUptoRow, standIns := [], harness := (true, "b329e8443bf405fc7ec9c7f296bf5b15ced440c224d2249f857770d22ce70a43"), looks := false }, kinds := [], alts := [], laidByText := true, laidKinds := [.data], laidTests := true, laidLooks := .later }
def OptsTailUptoCardSaid : Prop := Claim7.holds Tryd.pinned (.plain (OpenSpec.upto optsTailSpec)) optsTailUptoCard
end Rows
end Go.Proofs.YtecoknenkjgmjaaDoor
