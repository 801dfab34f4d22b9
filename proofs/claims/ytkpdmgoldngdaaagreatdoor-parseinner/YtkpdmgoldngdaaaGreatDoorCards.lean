/-
  DERIVED. GIVEN WITH THE SEED: THE CARDS: each row of YtkpdmgoldngdaaaGreatDoorRows.lean that lists a variable, with what it lists TIED to the program's text (the seventh form; the later family's looks); each row that meets fmt, with fmt's text TOLD by the authors' own Lean function (tested against real Go, not proved from fmt's source: count such statements apart). THE CARD IS WHAT COUNTS. Prove the row's statement (the work); the ties are given (YtkpdmgoldngdaaaGreatDoorTie.lean); close each card by the builder's one call (the guide's Derived/Test/ToyasCard.lean, 'card_holds'). Laid BY PROGRAM, IN A SANDBOX (cutbox-door.mjs). By AI agents, Wed Nov 11 2026. No macro, syntax, notation, axiom, sorry.
-/
import Derived.Test.YtkpdmgoldngdaaaGreatDoorRows
import GoSem.ClaimSeven
namespace Go.Proofs.YtkpdmgoldngdaaaGreatDoor
namespace Rows

/-- THE TIED CARD OF 'sternpostlaw09.ParseFrames'. -/
def parseFramesCard : Claim7 := { stood := { row := parseFramesRow, standIns := [], harness := (true, "7f3e5826c91c0268c36589220b54e6cb0c7f44522cc63fcc304d9dad4d6cda37"), looks := true }, kinds := [], alts := [], laidByText := true, laidKinds := [.handle, .data], laidTests := true, laidLooks := .later }
def ParseFramesCardSaid : Prop := Claim7.holds Tryz.pinned (.plain (OpenSpec.ofChange parseFramesSpec)) parseFramesCard

/-- THE TIED CARD OF 'sternpostlaw09.ParseInner'. -/
def parseInnerCard : Claim7 := { stood := { row := parseInnerRow, standIns := [], harness := (true, "7f3e5826c91c0268c36589220b54e6cb0c7f44522cc63fcc304d9dad4d6cda37"), looks := true }, kinds := [], alts := [], laidByText := true, laidKinds := [.handle, .data], laidTests := true, laidLooks := .later }
def ParseInnerCardSaid : Prop := Claim7.holds Tryz.pinned (.plain (OpenSpec.ofChange parseInnerSpec)) parseInnerCard

/-- THE TIED CARD OF 'sternpostlaw09.ParseOthers'. -/
def parseOthersCard : Claim7 := { stood := { row := parseOthersRow, standIns := [], harness := (true, "7f3e5826c91c0268c36589220b54e6cb0c7f44522cc63fcc304d9dad4d6cda37"), looks := true }, kinds := [], alts := [], laidByText := true, laidKinds := [.handle, .data], laidTests := true, laidLooks := .later }
def ParseOthersCardSaid : Prop := Claim7.holds Tryz.pinned (.plain (OpenSpec.ofChange parseOthersSpec)) parseOthersCard

/-- THE TIED CARD OF 'sternpostlaw09.ParseSegments'. -/
def parseSegmentsCard : Claim7 := { stood := { row := parseSegmentsRow, standIns := [], harness := (true, "7f3e5826c91c0268c36589220b54e6cb0c7f44522cc63fcc304d9dad4d6cda37"), looks := true }, kinds := [], alts := [], laidByText := true, laidKinds := [.handle, .data], laidTests := true, laidLooks := .later }
def ParseSegmentsCardSaid : Prop := Claim7.holds Tryz.pinned (.plain (OpenSpec.ofChange parseSegmentsSpec)) parseSegmentsCard

/-- THE TIED CARD OF 'sternpostlaw09.ParseMessages'. -/
def parseMessagesCard : Claim7 := { stood := { row := parseMessagesRow, standIns := [], harness := (true, "7f3e5826c91c0268c36589220b54e6cb0c7f44522cc63fcc304d9dad4d6cda37"), looks := true }, kinds := [], alts := [], laidByText := true, laidKinds := [.handle, .data], laidTests := true, laidLooks := .later }
def ParseMessagesCardSaid : Prop := Claim7.holds Tryz.pinned (.plain (OpenSpec.ofChange parseMessagesSpec)) parseMessagesCard

/-- THE TIED CARD OF 'sternpostlaw09.ParseInside'. -/
def parseInsideCard : Claim7 := { stood := { row := parseInsideRow, standIns := [], harness := (true, "7f3e5826c91c0268c36589220b54e6cb0c7f44522cc63fcc304d9dad4d6cda37"), looks := true }, kinds := [], alts := [], laidByText := true, laidKinds := [.handle, .data], laidTests := true, laidLooks := .later }
def ParseInsideCardSaid : Prop := Claim7.holds Tryz.pinned (.plain (OpenSpec.ofChange parseInsideSpec)) parseInsideCard

/-- THE SECOND FORM's CARD OF 'sternpostlaw09.ParseFrames'. -/
def parseFramesUptoCard : Claim7 := { stood := { row := parseFramesUptoRow, standIns := [], harness := (true, "7f3e5826c91c0268c36589220b54e6cb0c7f44522cc63fcc304d9dad4d6cda37"), looks := true }, kinds := [], alts := [], laidByText := true, laidKinds := [.handle, .data], laidTests := true, laidLooks := .later }
def ParseFramesUptoCardSaid : Prop := Claim7.holds Tryz.pinned (.plain (OpenSpec.upto parseFramesSpec)) parseFramesUptoCard

/-- THE SECOND FORM's CARD OF 'sternpostlaw09.ParseInner'. -/
def parseInnerUptoCard : Claim7 := { stood := { row := parseInnerUptoRow, standIns := [], harness := (true, "7f3e5826c91c0268c36589220b54e6cb0c7f44522cc63fcc304d9dad4d6cda37"), looks := true }, kinds := [], alts := [], laidByText := true, laidKinds := [.handle, .data], laidTests := true, laidLooks := .later }
def ParseInnerUptoCardSaid : Prop := Claim7.holds Tryz.pinned (.plain (OpenSpec.upto parseInnerSpec)) parseInnerUptoCard

/-- THE SECOND FORM's CARD OF 'sternpostlaw09.ParseOthers'. -/
def parseOthersUptoCard : Claim7 := { stood := { row := parseOthersUptoRow, standIns := [], harness := (true, "7f3e5826c91c0268c36589220b54e6cb0c7f44522cc63fcc304d9dad4d6cda37"), looks := true }, kinds := [], alts := [], laidByText := true, laidKinds := [.handle, .data], laidTests := true, laidLooks := .later }
def ParseOthersUptoCardSaid : Prop := Claim7.holds Tryz.pinned (.plain (OpenSpec.upto parseOthersSpec)) parseOthersUptoCard

/-- THE SECOND FORM's CARD OF 'sternpostlaw09.ParseSegments'. -/
def parseSegmentsUptoCard : Claim7 := { stood := { row := parseSegmentsUptoRow, standIns := [], harness := (true, "7f3e5826c91c0268c36589220b54e6cb0c7f44522cc63fcc304d9dad4d6cda37"), looks := true }, kinds := [], alts := [], laidByText := true, laidKinds := [.handle, .data], laidTests := true, laidLooks := .later }
def ParseSegmentsUptoCardSaid : Prop := Claim7.holds Tryz.pinned (.plain (OpenSpec.upto parseSegmentsSpec)) parseSegmentsUptoCard

/-- THE SECOND FORM's CARD OF 'sternpostlaw09.ParseMessages'. -/
def parseMessagesUptoCard : Claim7 := { stood := { row := parseMessagesUptoRow, standIns := [], harness := (true, "7f3e5826c91c0268c36589220b54e6cb0c7f44522cc63fcc304d9dad4d6cda37"), looks := true }, kinds := [], alts := [], laidByText := true, laidKinds := [.handle, .data], laidTests := true, laidLooks := .later }
def ParseMessagesUptoCardSaid : Prop := Claim7.holds Tryz.pinned (.plain (OpenSpec.upto parseMessagesSpec)) parseMessagesUptoCard

/-- THE SECOND FORM's CARD OF 'sternpostlaw09.ParseInside'. -/
def parseInsideUptoCard : Claim7 := { stood := { row := parseInsideUptoRow, standIns := [], harness := (true, "7f3e5826c91c0268c36589220b54e6cb0c7f44522cc63fcc304d9dad4d6cda37"), looks := true }, kinds := [], alts := [], laidByText := true, laidKinds := [.handle, .data], laidTests := true, laidLooks := .later }
def ParseInsideUptoCardSaid : Prop := Claim7.holds Tryz.pinned (.plain (OpenSpec.upto parseInsideSpec)) parseInsideUptoCard
end Rows
end Go.Proofs.YtkpdmgoldngdaaaGreatDoor
