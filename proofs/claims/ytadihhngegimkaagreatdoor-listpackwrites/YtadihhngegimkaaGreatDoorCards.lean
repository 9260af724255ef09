/-
  DERIVED. GIVEN WITH THE SEED: THE CARDS: each row of YtadihhngegimkaaGreatDoorRows.lean that lists a variable, with what it lists TIED to the program's text (the seventh form; the later family's looks); each row that meets fmt, with fmt's text TOLD by the authors' own Lean function (tested against real Go, not proved from fmt's source: count such statements apart). THE CARD IS WHAT COUNTS. Prove the row's statement (the work); the ties are given (YtadihhngegimkaaGreatDoorTie.lean); close each card by the builder's one call (the guide's Derived/Test/ToyasCard.lean, 'card_holds'). Laid BY PROGRAM, IN A SANDBOX (cutbox-door.mjs). By AI agents, Wed Nov 11 2026. No macro, syntax, notation, axiom, sorry.
-/
import Derived.Test.YtadihhngegimkaaGreatDoorRows
import GoSem.ClaimSeven
namespace Go.Proofs.YtadihhngegimkaaGreatDoor
namespace Rows

/-- THE TIED CARD OF 'cisternlaw06.ListpackReads'. -/
def listpackReadsCard : Claim7 := { stood := { row := listpackReadsRow, standIns := [], harness := (true, "57e5c249cf0b3dbfea734699a4a8d183af266ba241679cae4ca8865a89ec422d"), looks := true }, kinds := [], alts := [], laidByText := true, laidKinds := [.data, .data, .data, .sentinel, .sentinel, .data], laidTests := true, laidLooks := .later }
def ListpackReadsCardSaid : Prop := Claim7.holds Tryz.pinned (.plain (OpenSpec.ofChange listpackReadsSpec)) listpackReadsCard

/-- THE TIED CARD OF 'cisternlaw06.ListpackWrites'. -/
def listpackWritesCard : Claim7 := { stood := { row := listpackWritesRow, standIns := [], harness := (true, "57e5c249cf0b3dbfea734699a4a8d183af266ba241679cae4ca8865a89ec422d"), looks := true }, kinds := [], alts := [], laidByText := true, laidKinds := [.data, .data, .data, .sentinel, .sentinel, .data], laidTests := true, laidLooks := .later }
def ListpackWritesCardSaid : Prop := Claim7.holds Tryz.pinned (.plain (OpenSpec.ofChange listpackWritesSpec)) listpackWritesCard

/-- THE SECOND FORM's CARD OF 'cisternlaw06.ListpackReads'. -/
def listpackReadsUptoCard : Claim7 := { stood := { row := listpackReadsUptoRow, standIns := [], harness := (true, "57e5c249cf0b3dbfea734699a4a8d183af266ba241679cae4ca8865a89ec422d"), looks := true }, kinds := [], alts := [], laidByText := true, laidKinds := [.data, .data, .data, .sentinel, .sentinel, .data], laidTests := true, laidLooks := .later }
def ListpackReadsUptoCardSaid : Prop := Claim7.holds Tryz.pinned (.plain (OpenSpec.upto listpackReadsSpec)) listpackReadsUptoCard

/-- THE SECOND FORM's CARD OF 'cisternlaw06.ListpackWrites'. -/
def listpackWritesUptoCard : Claim7 := { stood := { row := listpackWritesUptoRow, standIns := [], harness := (true, "57e5c249cf0b3dbfea734699a4a8d183af266ba241679cae4ca8865a89ec422d"), looks := true }, kinds := [], alts := [], laidByText := true, laidKinds := [.data, .data, .data, .sentinel, .sentinel, .data], laidTests := true, laidLooks := .later }
def ListpackWritesUptoCardSaid : Prop := Claim7.holds Tryz.pinned (.plain (OpenSpec.upto listpackWritesSpec)) listpackWritesUptoCard
end Rows
end Go.Proofs.YtadihhngegimkaaGreatDoor
