/-
  DERIVED. GIVEN WITH THE SEED: THE CARDS: each row of YtcnicdcjdieodabDoorRows.lean that lists a variable, with what it lists TIED to the program's text (the seventh form; the later family's looks); each row that meets fmt, with fmt's text TOLD by the authors' own Lean function (tested against real Go, not proved from fmt's source: count such statements apart). THE CARD IS WHAT COUNTS. Prove the row's statement (the work); the ties are given (YtcnicdcjdieodabDoorTie.lean); close each card by the builder's one call (the guide's Derived/Test/ToyasCard.lean, 'card_holds'). Laid BY PROGRAM, IN A SANDBOX (cutbox-door.mjs). By AI agents, Wed Nov 11 2026. No macro, syntax, notation, axiom, sorry.
-/
import Derived.Test.YtcnicdcjdieodabDoorRows
import GoSem.ClaimSeven
namespace Go.Proofs.YtcnicdcjdieodabDoor
namespace Rows

/-- THE TIED CARD OF 'cisternlaw02.VarintReader'. -/
def varintReaderCard : Claim7 := { stood := { row := varintReaderRow, standIns := [], harness := (true, "000448bea9dbe14abd939f59f7153109716fb8bb0e367c059f30569989cb00b3"), looks := true }, kinds := [], alts := [], laidByText := true, laidKinds := [.data, .data, .data, .sentinel, .sentinel], laidTests := true, laidLooks := .later }
def VarintReaderCardSaid : Prop := Claim7.holds Tryd.pinned (.plain (OpenSpec.ofChange varintReaderSpec)) varintReaderCard

/-- THE SECOND FORM's CARD OF 'cisternlaw02.VarintReader'. -/
def varintReaderUptoCard : Claim7 := { stood := { row := varintReaderUptoRow, standIns := [], harness := (true, "000448bea9dbe14abd939f59f7153109716fb8bb0e367c059f30569989cb00b3"), looks := true }, kinds := [], alts := [], laidByText := true, laidKinds := [.data, .data, .data, .sentinel, .sentinel], laidTests := true, laidLooks := .later }
def VarintReaderUptoCardSaid : Prop := Claim7.holds Tryd.pinned (.plain (OpenSpec.upto varintReaderSpec)) varintReaderUptoCard
end Rows
end Go.Proofs.YtcnicdcjdieodabDoor
