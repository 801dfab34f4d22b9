/-
  DERIVED. GIVEN WITH THE SEED: THE CARDS: each row of YtadmpdeegnppjaaGreatDoorRows.lean that lists a variable, with what it lists TIED to the program's text (the seventh form; the later family's looks); each row that meets fmt, with fmt's text TOLD by the authors' own Lean function (tested against real Go, not proved from fmt's source: count such statements apart). THE CARD IS WHAT COUNTS. Prove the row's statement (the work); the ties are given (YtadmpdeegnppjaaGreatDoorTie.lean); close each card by the builder's one call (the guide's Derived/Test/ToyasCard.lean, 'card_holds'). Laid BY PROGRAM, IN A SANDBOX (cutbox-door.mjs). By AI agents, Wed Nov 11 2026. No macro, syntax, notation, axiom, sorry.
-/
import Derived.Test.YtadmpdeegnppjaaGreatDoorRows
import GoSem.ClaimSeven
namespace Go.Proofs.YtadmpdeegnppjaaGreatDoor
namespace Rows

/-- THE TIED CARD OF 'sternpostlaw21.AppTakes'. -/
def appTakesCard : Claim7 := { stood := { row := appTakesRow, standIns := [], harness := (true, "099cebdfec68c997177df8d0b3944b38210b43fb51c927af5c12f84c609615bc"), looks := true }, kinds := [], alts := [], laidByText := true, laidKinds := [.data, .data, .data, .sentinel, .sentinel], laidTests := true, laidLooks := .later }
def AppTakesCardSaid : Prop := Claim7.holds Tryz.pinned (.plain (OpenSpec.ofChange appTakesSpec)) appTakesCard

/-- THE TIED CARD OF 'sternpostlaw21.AppAnswers'. -/
def appAnswersCard : Claim7 := { stood := { row := appAnswersRow, standIns := [], harness := (true, "099cebdfec68c997177df8d0b3944b38210b43fb51c927af5c12f84c609615bc"), looks := true }, kinds := [], alts := [], laidByText := true, laidKinds := [.data, .data, .data, .sentinel, .sentinel], laidTests := true, laidLooks := .later }
def AppAnswersCardSaid : Prop := Claim7.holds Tryz.pinned (.plain (OpenSpec.ofChange appAnswersSpec)) appAnswersCard

/-- THE SECOND FORM's CARD OF 'sternpostlaw21.AppTakes'. -/
def appTakesUptoCard : Claim7 := { stood := { row := appTakesUptoRow, standIns := [], harness := (true, "099cebdfec68c997177df8d0b3944b38210b43fb51c927af5c12f84c609615bc"), looks := true }, kinds := [], alts := [], laidByText := true, laidKinds := [.data, .data, .data, .sentinel, .sentinel], laidTests := true, laidLooks := .later }
def AppTakesUptoCardSaid : Prop := Claim7.holds Tryz.pinned (.plain (OpenSpec.upto appTakesSpec)) appTakesUptoCard

/-- THE SECOND FORM's CARD OF 'sternpostlaw21.AppAnswers'. -/
def appAnswersUptoCard : Claim7 := { stood := { row := appAnswersUptoRow, standIns := [], harness := (true, "099cebdfec68c997177df8d0b3944b38210b43fb51c927af5c12f84c609615bc"), looks := true }, kinds := [], alts := [], laidByText := true, laidKinds := [.data, .data, .data, .sentinel, .sentinel], laidTests := true, laidLooks := .later }
def AppAnswersUptoCardSaid : Prop := Claim7.holds Tryz.pinned (.plain (OpenSpec.upto appAnswersSpec)) appAnswersUptoCard
end Rows
end Go.Proofs.YtadmpdeegnppjaaGreatDoor
