/-
  DERIVED. GIVEN WITH THE SEED: THE CARDS: each row of YtbmfbpcjokbjkaaDoorRows.lean that lists a variable, with what it lists TIED to the program's text (the seventh form; the later family's looks); each row that meets fmt, with fmt's text TOLD by the authors' own Lean function (tested against real Go, not proved from fmt's source: count such statements apart). THE CARD IS WHAT COUNTS. Prove the row's statement (the work); the ties are given (YtbmfbpcjokbjkaaDoorTie.lean); close each card by the builder's one call (the guide's Derived/Test/ToyasCard.lean, 'card_holds'). Laid BY PROGRAM, IN A SANDBOX (cutbox-door.mjs). By AI agents, Wed Nov 11 2026. No macro, syntax, notation, axiom, sorry.
-/
import Derived.Test.YtbmfbpcjokbjkaaDoorRows
import GoSem.ClaimSeven
namespace Go.Proofs.YtbmfbpcjokbjkaaDoor
namespace Rows

/-- THE TIED CARD OF 'cisternlaw12.RespPieces'. -/
def respPiecesCard : Claim7 := { stood := { row := respPiecesRow, standIns := [], harness := (true, "5750ef6ca1fc3e5ac5fcb1fcf0667f29570be9202cdd1f9518fdafa6aabc3e5f"), looks := true }, kinds := [], alts := [], laidByText := true, laidKinds := [.data, .data, .data, .data, .sentinel, .sentinel, .pinned], laidTests := true, laidLooks := .later }
def RespPiecesCardSaid : Prop := Claim7.holds Tryd.pinned (.plain (OpenSpec.ofChange respPiecesSpec)) respPiecesCard

/-- THE TIED CARD OF 'cisternlaw12.RespAsks'. -/
def respAsksCard : Claim7 := { stood := { row := respAsksRow, standIns := [], harness := (true, "5750ef6ca1fc3e5ac5fcb1fcf0667f29570be9202cdd1f9518fdafa6aabc3e5f"), looks := true }, kinds := [], alts := [], laidByText := true, laidKinds := [.data, .data, .data, .data, .sentinel, .sentinel, .pinned], laidTests := true, laidLooks := .later }
def RespAsksCardSaid : Prop := Claim7.holds Tryd.pinned (.plain (OpenSpec.ofChange respAsksSpec)) respAsksCard

/-- THE TIED CARD OF 'cisternlaw12.RespSplits'. -/
def respSplitsCard : Claim7 := { stood := { row := respSplitsRow, standIns := [], harness := (true, "5750ef6ca1fc3e5ac5fcb1fcf0667f29570be9202cdd1f9518fdafa6aabc3e5f"), looks := true }, kinds := [], alts := [], laidByText := true, laidKinds := [.data, .data, .data, .data, .sentinel, .sentinel, .pinned], laidTests := true, laidLooks := .later }
def RespSplitsCardSaid : Prop := Claim7.holds Tryd.pinned (.plain (OpenSpec.ofChange respSplitsSpec)) respSplitsCard

/-- THE SECOND FORM's CARD OF 'cisternlaw12.RespPieces'. -/
def respPiecesUptoCard : Claim7 := { stood := { row := respPiecesUptoRow, standIns := [], harness := (true, "5750ef6ca1fc3e5ac5fcb1fcf0667f29570be9202cdd1f9518fdafa6aabc3e5f"), looks := true }, kinds := [], alts := [], laidByText := true, laidKinds := [.data, .data, .data, .data, .sentinel, .sentinel, .pinned], laidTests := true, laidLooks := .later }
def RespPiecesUptoCardSaid : Prop := Claim7.holds Tryd.pinned (.plain (OpenSpec.upto respPiecesSpec)) respPiecesUptoCard

/-- THE SECOND FORM's CARD OF 'cisternlaw12.RespAsks'. -/
def respAsksUptoCard : Claim7 := { stood := { row := respAsksUptoRow, standIns := [], harness := (true, "5750ef6ca1fc3e5ac5fcb1fcf0667f29570be9202cdd1f9518fdafa6aabc3e5f"), looks := true }, kinds := [], alts := [], laidByText := true, laidKinds := [.data, .data, .data, .data, .sentinel, .sentinel, .pinned], laidTests := true, laidLooks := .later }
def RespAsksUptoCardSaid : Prop := Claim7.holds Tryd.pinned (.plain (OpenSpec.upto respAsksSpec)) respAsksUptoCard

/-- THE SECOND FORM's CARD OF 'cisternlaw12.RespSplits'. -/
def respSplitsUptoCard : Claim7 := { stood := { row := respSplitsUptoRow, standIns := [], harness := (true, "5750ef6ca1fc3e5ac5fcb1fcf0667f29570be9202cdd1f9518fdafa6aabc3e5f"), looks := true }, kinds := [], alts := [], laidByText := true, laidKinds := [.data, .data, .data, .data, .sentinel, .sentinel, .pinned], laidTests := true, laidLooks := .later }
def RespSplitsUptoCardSaid : Prop := Claim7.holds Tryd.pinned (.plain (OpenSpec.upto respSplitsSpec)) respSplitsUptoCard
end Rows
end Go.Proofs.YtbmfbpcjokbjkaaDoor
