/-
  DERIVED. GIVEN WITH THE SEED: THE CARDS: each row of YtadmpdeegnppjaaDoorRows.lean that lists a variable, with what it lists TIED to the program's text (the seventh form; the later family's looks); each row that meets fmt, with fmt's text TOLD by the authors' own Lean function (tested against real Go, not proved from fmt's source: count such statements apart). THE CARD IS WHAT COUNTS. Prove the row's statement (the work); the ties are given (YtadmpdeegnppjaaDoorTie.lean); close each card by the builder's one call (the guide's Derived/Test/ToyasCard.lean, 'card_holds'). Laid BY PROGRAM, IN A SANDBOX (cutbox-door.mjs). By AI agents, Wed Nov 11 2026. No macro, syntax, notation, axiom, sorry.
-/
import Derived.Test.YtadmpdeegnppjaaDoorRows
import GoSem.ClaimSeven
namespace Go.Proofs.YtadmpdeegnppjaaDoor
namespace Rows

/-- THE TIED CARD OF 'sternpostlaw21.AppPieces'. -/
def appPiecesCard : Claim7 := { stood := { row := appPiecesRow, standIns := [], harness := (true, "e015eaaf1db55dccadf8f9e286f96391be1b3c6e30789a0b2fa1973649f2c3a5"), looks := true }, kinds := [], alts := [], laidByText := true, laidKinds := [.data, .data, .data, .sentinel, .sentinel], laidTests := true, laidLooks := .later }
def AppPiecesCardSaid : Prop := Claim7.holds Tryd.pinned (.plain (OpenSpec.ofChange appPiecesSpec)) appPiecesCard

/-- THE TIED CARD OF 'sternpostlaw21.AppKeeps'. -/
def appKeepsCard : Claim7 := { stood := { row := appKeepsRow, standIns := [], harness := (true, "e015eaaf1db55dccadf8f9e286f96391be1b3c6e30789a0b2fa1973649f2c3a5"), looks := true }, kinds := [], alts := [], laidByText := true, laidKinds := [.data, .data, .data, .sentinel, .sentinel], laidTests := true, laidLooks := .later }
def AppKeepsCardSaid : Prop := Claim7.holds Tryd.pinned (.plain (OpenSpec.ofChange appKeepsSpec)) appKeepsCard

/-- THE TIED CARD OF 'sternpostlaw21.AppSums'. -/
def appSumsCard : Claim7 := { stood := { row := appSumsRow, standIns := [], harness := (true, "e015eaaf1db55dccadf8f9e286f96391be1b3c6e30789a0b2fa1973649f2c3a5"), looks := true }, kinds := [], alts := [], laidByText := true, laidKinds := [.data, .data, .data, .sentinel, .sentinel], laidTests := true, laidLooks := .later }
def AppSumsCardSaid : Prop := Claim7.holds Tryd.pinned (.plain (OpenSpec.ofChange appSumsSpec)) appSumsCard

/-- THE TIED CARD OF 'sternpostlaw21.AppApart'. -/
def appApartCard : Claim7 := { stood := { row := appApartRow, standIns := [], harness := (true, "e015eaaf1db55dccadf8f9e286f96391be1b3c6e30789a0b2fa1973649f2c3a5"), looks := true }, kinds := [], alts := [], laidByText := true, laidKinds := [.data, .data, .data, .sentinel, .sentinel], laidTests := true, laidLooks := .later }
def AppApartCardSaid : Prop := Claim7.holds Tryd.pinned (.plain (OpenSpec.ofChange appApartSpec)) appApartCard

/-- THE SECOND FORM's CARD OF 'sternpostlaw21.AppPieces'. -/
def appPiecesUptoCard : Claim7 := { stood := { row := appPiecesUptoRow, standIns := [], harness := (true, "e015eaaf1db55dccadf8f9e286f96391be1b3c6e30789a0b2fa1973649f2c3a5"), looks := true }, kinds := [], alts := [], laidByText := true, laidKinds := [.data, .data, .data, .sentinel, .sentinel], laidTests := true, laidLooks := .later }
def AppPiecesUptoCardSaid : Prop := Claim7.holds Tryd.pinned (.plain (OpenSpec.upto appPiecesSpec)) appPiecesUptoCard

/-- THE SECOND FORM's CARD OF 'sternpostlaw21.AppKeeps'. -/
def appKeepsUptoCard : Claim7 := { stood := { row := appKeepsUptoRow, standIns := [], harness := (true, "e015eaaf1db55dccadf8f9e286f96391be1b3c6e30789a0b2fa1973649f2c3a5"), looks := true }, kinds := [], alts := [], laidByText := true, laidKinds := [.data, .data, .data, .sentinel, .sentinel], laidTests := true, laidLooks := .later }
def AppKeepsUptoCardSaid : Prop := Claim7.holds Tryd.pinned (.plain (OpenSpec.upto appKeepsSpec)) appKeepsUptoCard

/-- THE SECOND FORM's CARD OF 'sternpostlaw21.AppSums'. -/
def appSumsUptoCard : Claim7 := { stood := { row := appSumsUptoRow, standIns := [], harness := (true, "e015eaaf1db55dccadf8f9e286f96391be1b3c6e30789a0b2fa1973649f2c3a5"), looks := true }, kinds := [], alts := [], laidByText := true, laidKinds := [.data, .data, .data, .sentinel, .sentinel], laidTests := true, laidLooks := .later }
def AppSumsUptoCardSaid : Prop := Claim7.holds Tryd.pinned (.plain (OpenSpec.upto appSumsSpec)) appSumsUptoCard

/-- THE SECOND FORM's CARD OF 'sternpostlaw21.AppApart'. -/
def appApartUptoCard : Claim7 := { stood := { row := appApartUptoRow, standIns := [], harness := (true, "e015eaaf1db55dccadf8f9e286f96391be1b3c6e30789a0b2fa1973649f2c3a5"), looks := true }, kinds := [], alts := [], laidByText := true, laidKinds := [.data, .data, .data, .sentinel, .sentinel], laidTests := true, laidLooks := .later }
def AppApartUptoCardSaid : Prop := Claim7.holds Tryd.pinned (.plain (OpenSpec.upto appApartSpec)) appApartUptoCard
end Rows
end Go.Proofs.YtadmpdeegnppjaaDoor
