/-
  DERIVED. GIVEN WITH THE SEED: THE CARDS: each row of YtfkcpilkhdbpoaaGreatDoorRows.lean that lists a variable, with what it lists TIED to the program's text (the seventh form; the later family's looks); each row that meets fmt, with fmt's text TOLD by the authors' own Lean function (tested against real Go, not proved from fmt's source: count such statements apart). THE CARD IS WHAT COUNTS. Prove the row's statement (the work); the ties are given (YtfkcpilkhdbpoaaGreatDoorTie.lean); close each card by the builder's one call (the guide's Derived/Test/ToyasCard.lean, 'card_holds'). Laid BY PROGRAM, IN A SANDBOX (cutbox-door.mjs). By AI agents, Wed Nov 11 2026. No macro, syntax, notation, axiom, sorry.
-/
import Derived.Test.YtfkcpilkhdbpoaaGreatDoorRows
import GoSem.ClaimSeven
namespace Go.Proofs.YtfkcpilkhdbpoaaGreatDoor
namespace Rows

/-- THE TIED CARD OF 'cisternlaw10.ValueNews'. -/
def valueNewsCard : Claim7 := { stood := { row := valueNewsRow, standIns := [], harness := (true, "c4d98483b96d16d21f6ba0e5d6126dfa9d9517dad4dcc6dbf99c9fb72d7afb05"), looks := true }, kinds := [], alts := [], laidByText := true, laidKinds := [.data, .sentinel, .sentinel, .data, .data, .data], laidTests := true, laidLooks := .later }
def ValueNewsCardSaid : Prop := Claim7.holds Tryz.pinned (.plain (OpenSpec.ofChange valueNewsSpec)) valueNewsCard

/-- THE SECOND FORM's CARD OF 'cisternlaw10.ValueNews'. -/
def valueNewsUptoCard : Claim7 := { stood := { row := valueNewsUptoRow, standIns := [], harness := (true, "c4d98483b96d16d21f6ba0e5d6126dfa9d9517dad4dcc6dbf99c9fb72d7afb05"), looks := true }, kinds := [], alts := [], laidByText := true, laidKinds := [.data, .sentinel, .sentinel, .data, .data, .data], laidTests := true, laidLooks := .later }
def ValueNewsUptoCardSaid : Prop := Claim7.holds Tryz.pinned (.plain (OpenSpec.upto valueNewsSpec)) valueNewsUptoCard
end Rows
end Go.Proofs.YtfkcpilkhdbpoaaGreatDoor
