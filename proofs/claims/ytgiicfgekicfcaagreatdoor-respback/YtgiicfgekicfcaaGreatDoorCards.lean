/-
  DERIVED. GIVEN WITH THE SEED: THE CARDS: each row of YtgiicfgekicfcaaGreatDoorRows.lean that lists a variable, with what it lists TIED to the program's text (the seventh form; the later family's looks); each row that meets fmt, with fmt's text TOLD by the authors' own Lean function (tested against real Go, not proved from fmt's source: count such statements apart). THE CARD IS WHAT COUNTS. Prove the row's statement (the work); the ties are given (YtgiicfgekicfcaaGreatDoorTie.lean); close each card by the builder's one call (the guide's Derived/Test/ToyasCard.lean, 'card_holds'). Laid BY PROGRAM, IN A SANDBOX (cutbox-door.mjs). By AI agents, Wed Nov 11 2026. No macro, syntax, notation, axiom, sorry.
-/
import Derived.Test.YtgiicfgekicfcaaGreatDoorRows
import GoSem.ClaimSeven
namespace Go.Proofs.YtgiicfgekicfcaaGreatDoor
namespace Rows

/-- THE TIED CARD OF 'cisternlaw12.RespEncodes'. -/
def respEncodesCard : Claim7 := { stood := { row := respEncodesRow, standIns := [], harness := (true, "438b4b8acb71bbb598c7e7c88246abf8b255c3ddc5bafc07c0f898cd541bb32c"), looks := true }, kinds := [], alts := [], laidByText := true, laidKinds := [.data, .data, .data, .data, .sentinel, .sentinel, .pinned], laidTests := true, laidLooks := .later }
def RespEncodesCardSaid : Prop := Claim7.holds Tryz.pinned (.plain (OpenSpec.ofChange respEncodesSpec)) respEncodesCard

/-- THE TIED CARD OF 'cisternlaw12.RespBack'. -/
def respBackCard : Claim7 := { stood := { row := respBackRow, standIns := [], harness := (true, "438b4b8acb71bbb598c7e7c88246abf8b255c3ddc5bafc07c0f898cd541bb32c"), looks := true }, kinds := [], alts := [], laidByText := true, laidKinds := [.data, .data, .data, .data, .sentinel, .sentinel, .pinned], laidTests := true, laidLooks := .later }
def RespBackCardSaid : Prop := Claim7.holds Tryz.pinned (.plain (OpenSpec.ofChange respBackSpec)) respBackCard

/-- THE SECOND FORM's CARD OF 'cisternlaw12.RespEncodes'. -/
def respEncodesUptoCard : Claim7 := { stood := { row := respEncodesUptoRow, standIns := [], harness := (true, "438b4b8acb71bbb598c7e7c88246abf8b255c3ddc5bafc07c0f898cd541bb32c"), looks := true }, kinds := [], alts := [], laidByText := true, laidKinds := [.data, .data, .data, .data, .sentinel, .sentinel, .pinned], laidTests := true, laidLooks := .later }
def RespEncodesUptoCardSaid : Prop := Claim7.holds Tryz.pinned (.plain (OpenSpec.upto respEncodesSpec)) respEncodesUptoCard

/-- THE SECOND FORM's CARD OF 'cisternlaw12.RespBack'. -/
def respBackUptoCard : Claim7 := { stood := { row := respBackUptoRow, standIns := [], harness := (true, "438b4b8acb71bbb598c7e7c88246abf8b255c3ddc5bafc07c0f898cd541bb32c"), looks := true }, kinds := [], alts := [], laidByText := true, laidKinds := [.data, .data, .data, .data, .sentinel, .sentinel, .pinned], laidTests := true, laidLooks := .later }
def RespBackUptoCardSaid : Prop := Claim7.holds Tryz.pinned (.plain (OpenSpec.upto respBackSpec)) respBackUptoCard
end Rows
end Go.Proofs.YtgiicfgekicfcaaGreatDoor
