/-
  DERIVED. GIVEN WITH THE SEED: THE CARDS: each row of YtnfbaeajalnmmaaGreatDoorRows.lean that lists a variable, with what it lists TIED to the program's text (the seventh form; the later family's looks); each row that meets fmt, with fmt's text TOLD by the authors' own Lean function (tested against real Go, not proved from fmt's source: count such statements apart). THE CARD IS WHAT COUNTS. Prove the row's statement (the work); the ties are given (YtnfbaeajalnmmaaGreatDoorTie.lean); close each card by the builder's one call (the guide's Derived/Test/ToyasCard.lean, 'card_holds'). Laid BY PROGRAM, IN A SANDBOX (cutbox-door.mjs). By AI agents, Wed Nov 11 2026. No macro, syntax, notation, axiom, sorry.
-/
import Derived.Test.YtnfbaeajalnmmaaGreatDoorRows
import GoSem.ClaimSeven
namespace Go.Proofs.YtnfbaeajalnmmaaGreatDoor
namespace Rows

/-- THE TIED CARD OF 'cisternlaw12.RespTotal'. -/
def respTotalCard : Claim7 := { stood := { row := respTotalRow, standIns := [], harness := (true, "d34a81bd1ee331aa966e651282c561cd247745bd0d955311b96831641565ee7f"), looks := true }, kinds := [], alts := [], laidByText := true, laidKinds := [.data, .data, .data, .data, .sentinel, .sentinel, .pinned], laidTests := true, laidLooks := .later }
def RespTotalCardSaid : Prop := Claim7.holds Tryz.pinned (.plain (OpenSpec.ofChange respTotalSpec)) respTotalCard

/-- THE TIED CARD OF 'cisternlaw12.RespDecodes'. -/
def respDecodesCard : Claim7 := { stood := { row := respDecodesRow, standIns := [], harness := (true, "d34a81bd1ee331aa966e651282c561cd247745bd0d955311b96831641565ee7f"), looks := true }, kinds := [], alts := [], laidByText := true, laidKinds := [.data, .data, .data, .data, .sentinel, .sentinel, .pinned], laidTests := true, laidLooks := .later }
def RespDecodesCardSaid : Prop := Claim7.holds Tryz.pinned (.plain (OpenSpec.ofChange respDecodesSpec)) respDecodesCard

/-- THE SECOND FORM's CARD OF 'cisternlaw12.RespTotal'. -/
def respTotalUptoCard : Claim7 := { stood := { row := respTotalUptoRow, standIns := [], harness := (true, "d34a81bd1ee331aa966e651282c561cd247745bd0d955311b96831641565ee7f"), looks := true }, kinds := [], alts := [], laidByText := true, laidKinds := [.data, .data, .data, .data, .sentinel, .sentinel, .pinned], laidTests := true, laidLooks := .later }
def RespTotalUptoCardSaid : Prop := Claim7.holds Tryz.pinned (.plain (OpenSpec.upto respTotalSpec)) respTotalUptoCard

/-- THE SECOND FORM's CARD OF 'cisternlaw12.RespDecodes'. -/
def respDecodesUptoCard : Claim7 := { stood := { row := respDecodesUptoRow, standIns := [], harness := (true, "d34a81bd1ee331aa966e651282c561cd247745bd0d955311b96831641565ee7f"), looks := true }, kinds := [], alts := [], laidByText := true, laidKinds := [.data, .data, .data, .data, .sentinel, .sentinel, .pinned], laidTests := true, laidLooks := .later }
def RespDecodesUptoCardSaid : Prop := Claim7.holds Tryz.pinned (.plain (OpenSpec.upto respDecodesSpec)) respDecodesUptoCard
end Rows
end Go.Proofs.YtnfbaeajalnmmaaGreatDoor
