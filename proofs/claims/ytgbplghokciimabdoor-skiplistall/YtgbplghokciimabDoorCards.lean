/-
  DERIVED. GIVEN WITH THE SEED: THE CARDS: each row of YtgbplghokciimabDoorRows.lean that lists a variable, with what it lists TIED to the program's text (the seventh form; the later family's looks); each row that meets fmt, with fmt's text TOLD by the authors' own Lean function (tested against real Go, not proved from fmt's source: count such statements apart). THE CARD IS WHAT COUNTS. Prove the row's statement (the work); the ties are given (YtgbplghokciimabDoorTie.lean); close each card by the builder's one call (the guide's Derived/Test/ToyasCard.lean, 'card_holds'). Laid BY PROGRAM, IN A SANDBOX (cutbox-door.mjs). By AI agents, Wed Nov 11 2026. No macro, syntax, notation, axiom, sorry.
-/
import Derived.Test.YtgbplghokciimabDoorRows
import GoSem.ClaimSeven
namespace Go.Proofs.YtgbplghokciimabDoor
namespace Rows

/-- THE TIED CARD OF 'cisternlaw09.SkiplistAll'. -/
def skiplistAllCard : Claim7 := { stood := { row := skiplistAllRow, standIns := [], harness := (true, "8540725ac2be0636912c65400100317f95b8a73227f47983c3f4361bbb2b7f40"), looks := false }, kinds := [], alts := [], laidByText := true, laidKinds := [.data], laidTests := true, laidLooks := .later }
def SkiplistAllCardSaid : Prop := Claim7.holds Tryd.pinned (.plain (OpenSpec.ofChange skiplistAllSpec)) skiplistAllCard

/-- THE SECOND FORM's CARD OF 'cisternlaw09.SkiplistAll'. -/
def skiplistAllUptoCard : Claim7 := { stood := { row := skiplistAllUptoRow, standIns := [], harness := (true, "8540725ac2be0636912c65400100317f95b8a73227f47983c3f4361bbb2b7f40"), looks := false }, kinds := [], alts := [], laidByText := true, laidKinds := [.data], laidTests := true, laidLooks := .later }
def SkiplistAllUptoCardSaid : Prop := Claim7.holds Tryd.pinned (.plain (OpenSpec.upto skiplistAllSpec)) skiplistAllUptoCard
end Rows
end Go.Proofs.YtgbplghokciimabDoor
