/-
  DERIVED. GIVEN WITH THE SEED: THE CARDS: each row of YtecoknenkjgmjabDoorRows.lean that lists a variable, with what it lists TIED to the program's text (the seventh form; the later family's looks); each row that meets fmt, with fmt's text TOLD by the authors' own Lean function (tested against real Go, not proved from fmt's source: count such statements apart). THE CARD IS WHAT COUNTS. Prove the row's statement (the work); the ties are given (YtecoknenkjgmjabDoorTie.lean); close each card by the builder's one call (the guide's Derived/Test/ToyasCard.lean, 'card_holds'). Laid BY PROGRAM, IN A SANDBOX (cutbox-door.mjs). By AI agents, Wed Nov 11 2026. No macro, syntax, notation, axiom, sorry.
-/
import Derived.Test.YtecoknenkjgmjabDoorRows
import GoSem.ClaimSeven
namespace Go.Proofs.YtecoknenkjgmjabDoor
namespace Rows

/-- THE TIED CARD OF 'sternpostlaw08.SegWrites'. -/
def segWritesCard : Claim7 := { stood := { row := segWritesRow, standIns := [], harness := (true, "7a383cbcafb2e437da8d427f08dd0d5acda387abc0a856b5ba63ec94711a83ec"), looks := false }, kinds := [], alts := [], laidByText := true, laidKinds := [.data], laidTests := true, laidLooks := .later }
def SegWritesCardSaid : Prop := Claim7.holds Tryd.pinned (.plain (OpenSpec.ofChange segWritesSpec)) segWritesCard

/-- THE TIED CARD OF 'sternpostlaw08.SegReads'. -/
def segReadsCard : Claim7 := { stood := { row := segReadsRow, standIns := [], harness := (true, "7a383cbcafb2e437da8d427f08dd0d5acda387abc0a856b5ba63ec94711a83ec"), looks := false }, kinds := [], alts := [], laidByText := true, laidKinds := [.data], laidTests := true, laidLooks := .later }
def SegReadsCardSaid : Prop := Claim7.holds Tryd.pinned (.plain (OpenSpec.ofChange segReadsSpec)) segReadsCard

/-- THE TIED CARD OF 'sternpostlaw08.SegSame'. -/
def segSameCard : Claim7 := { stood := { row := segSameRow, standIns := [], harness := (true, "7a383cbcafb2e437da8d427f08dd0d5acda387abc0a856b5ba63ec94711a83ec"), looks := false }, kinds := [], alts := [], laidByText := true, laidKinds := [.data], laidTests := true, laidLooks := .later }
def SegSameCardSaid : Prop := Claim7.holds Tryd.pinned (.plain (OpenSpec.ofChange segSameSpec)) segSameCard

/-- THE TIED CARD OF 'sternpostlaw08.SegBack'. -/
def segBackCard : Claim7 := { stood := { row := segBackRow, standIns := [], harness := (true, "7a383cbcafb2e437da8d427f08dd0d5acda387abc0a856b5ba63ec94711a83ec"), looks := false }, kinds := [], alts := [], laidByText := true, laidKinds := [.data], laidTests := true, laidLooks := .later }
def SegBackCardSaid : Prop := Claim7.holds Tryd.pinned (.plain (OpenSpec.ofChange segBackSpec)) segBackCard

/-- THE TIED CARD OF 'sternpostlaw08.SegResets'. -/
def segResetsCard : Claim7 := { stood := { row := segResetsRow, standIns := [], harness := (true, "7a383cbcafb2e437da8d427f08dd0d5acda387abc0a856b5ba63ec94711a83ec"), looks := false }, kinds := [], alts := [], laidByText := true, laidKinds := [.data], laidTests := true, laidLooks := .later }
def SegResetsCardSaid : Prop := Claim7.holds Tryd.pinned (.plain (OpenSpec.ofChange segResetsSpec)) segResetsCard

/-- THE TIED CARD OF 'sternpostlaw08.SegWhole'. -/
def segWholeCard : Claim7 := { stood := { row := segWholeRow, standIns := [], harness := (true, "7a383cbcafb2e437da8d427f08dd0d5acda387abc0a856b5ba63ec94711a83ec"), looks := false }, kinds := [], alts := [], laidByText := true, laidKinds := [.data], laidTests := true, laidLooks := .later }
def SegWholeCardSaid : Prop := Claim7.holds Tryd.pinned (.plain (OpenSpec.ofChange segWholeSpec)) segWholeCard

/-- THE SECOND FORM's CARD OF 'sternpostlaw08.SegWrites'. -/
def segWritesUptoCard : Claim7 := { stood := { row := segWritesUptoRow, standIns := [], harness := (true, "7a383cbcafb2e437da8d427f08dd0d5acda387abc0a856b5ba63ec94711a83ec"), looks := false }, kinds := [], alts := [], laidByText := true, laidKinds := [.data], laidTests := true, laidLooks := .later }
def SegWritesUptoCardSaid : Prop := Claim7.holds Tryd.pinned (.plain (OpenSpec.upto segWritesSpec)) segWritesUptoCard

/-- THE SECOND FORM's CARD OF 'sternpostlaw08.SegReads'. -/
def segReadsUptoCard : Claim7 := { stood := { row := segReadsUptoRow, standIns := [], harness := (true, "7a383cbcafb2e437da8d427f08dd0d5acda387abc0a856b5ba63ec94711a83ec"), looks := false }, kinds := [], alts := [], laidByText := true, laidKinds := [.data], laidTests := true, laidLooks := .later }
def SegReadsUptoCardSaid : Prop := Claim7.holds Tryd.pinned (.plain (OpenSpec.upto segReadsSpec)) segReadsUptoCard

/-- THE SECOND FORM's CARD OF 'sternpostlaw08.SegSame'. -/
def segSameUptoCard : Claim7 := { stood := { row := segSameUptoRow, standIns := [], harness := (true, "7a383cbcafb2e437da8d427f08dd0d5acda387abc0a856b5ba63ec94711a83ec"), looks := false }, kinds := [], alts := [], laidByText := true, laidKinds := [.data], laidTests := true, laidLooks := .later }
def SegSameUptoCardSaid : Prop := Claim7.holds Tryd.pinned (.plain (OpenSpec.upto segSameSpec)) segSameUptoCard

/-- THE SECOND FORM's CARD OF 'sternpostlaw08.SegBack'. -/
def segBackUptoCard : Claim7 := { stood := { row := segBackUptoRow, standIns := [], harness := (true, "7a383cbcafb2e437da8d427f08dd0d5acda387abc0a856b5ba63ec94711a83ec"), looks := false }, kinds := [], alts := [], laidByText := true, laidKinds := [.data], laidTests := true, laidLooks := .later }
def SegBackUptoCardSaid : Prop := Claim7.holds Tryd.pinned (.plain (OpenSpec.upto segBackSpec)) segBackUptoCard

/-- THE SECOND FORM's CARD OF 'sternpostlaw08.SegResets'. -/
def segResetsUptoCard : Claim7 := { stood := { row := segResetsUptoRow, standIns := [], harness := (true, "7a383cbcafb2e437da8d427f08dd0d5acda387abc0a856b5ba63ec94711a83ec"), looks := false }, kinds := [], alts := [], laidByText := true, laidKinds := [.data], laidTests := true, laidLooks := .later }
def SegResetsUptoCardSaid : Prop := Claim7.holds Tryd.pinned (.plain (OpenSpec.upto segResetsSpec)) segResetsUptoCard

/-- THE SECOND FORM's CARD OF 'sternpostlaw08.SegWhole'. -/
def segWholeUptoCard : Claim7 := { stood := { row := segWholeUptoRow, standIns := [], harness := (true, "7a383cbcafb2e437da8d427f08dd0d5acda387abc0a856b5ba63ec94711a83ec"), looks := false }, kinds := [], alts := [], laidByText := true, laidKinds := [.data], laidTests := true, laidLooks := .later }
def SegWholeUptoCardSaid : Prop := Claim7.holds Tryd.pinned (.plain (OpenSpec.upto segWholeSpec)) segWholeUptoCard
end Rows
end Go.Proofs.YtecoknenkjgmjabDoor
