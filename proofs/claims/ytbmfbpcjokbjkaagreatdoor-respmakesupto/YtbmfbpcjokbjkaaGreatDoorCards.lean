/-
  DERIVED. GIVEN WITH THE SEED: THE CARDS: each row of YtbmfbpcjokbjkaaGreatDoorRows.lean that lists a variable, with what it lists TIED to the program's text (the seventh form; the later family's looks); each row that meets fmt, with fmt's text TOLD by the authors' own Lean function (tested against real Go, not proved from fmt's source: count such statements apart). THE CARD IS WHAT COUNTS. Prove the row's statement (the work); the ties are given (YtbmfbpcjokbjkaaGreatDoorTie.lean); close each card by the builder's one call (the guide's Derived/Test/ToyasCard.lean, 'card_holds'). Laid BY PROGRAM, IN A SANDBOX (cutbox-door.mjs). By AI agents, Wed Nov 11 2026. No macro, syntax, notation, axiom, sorry.
-/
import Derived.Test.YtbmfbpcjokbjkaaGreatDoorRows
import GoSem.ClaimSeven
namespace Go.Proofs.YtbmfbpcjokbjkaaGreatDoor
namespace Rows

/-- THE TIED CARD OF 'cisternlaw12.RespEncodes'. -/
def respEncodesCard : Claim7 := { stood := { row := respEncodesRow, standIns := [], harness := (true, "ee8afec00005c463051892df77a5c4659fdb96fa30319a3573b02d9e343d2a29"), looks := true }, kinds := [], alts := [], laidByText := true, laidKinds := [.data, .data, .data, .data, .sentinel, .sentinel, .pinned], laidTests := true, laidLooks := .later }
def RespEncodesCardSaid : Prop := Claim7.holds Tryz.pinned (.plain (OpenSpec.ofChange respEncodesSpec)) respEncodesCard

/-- THE TIED CARD OF 'cisternlaw12.RespFeeds'. -/
def respFeedsCard : Claim7 := { stood := { row := respFeedsRow, standIns := [], harness := (true, "ee8afec00005c463051892df77a5c4659fdb96fa30319a3573b02d9e343d2a29"), looks := true }, kinds := [], alts := [], laidByText := true, laidKinds := [.data, .data, .data, .data, .sentinel, .sentinel, .pinned], laidTests := true, laidLooks := .later }
def RespFeedsCardSaid : Prop := Claim7.holds Tryz.pinned (.plain (OpenSpec.ofChange respFeedsSpec)) respFeedsCard

/-- THE TIED CARD OF 'cisternlaw12.RespMakes'. -/
def respMakesCard : Claim7 := { stood := { row := respMakesRow, standIns := [], harness := (true, "ee8afec00005c463051892df77a5c4659fdb96fa30319a3573b02d9e343d2a29"), looks := true }, kinds := [], alts := [], laidByText := true, laidKinds := [.data, .data, .data, .data, .sentinel, .sentinel, .pinned], laidTests := true, laidLooks := .later }
def RespMakesCardSaid : Prop := Claim7.holds Tryz.pinned (.plain (OpenSpec.ofChange respMakesSpec)) respMakesCard

/-- THE SECOND FORM's CARD OF 'cisternlaw12.RespEncodes'. -/
def respEncodesUptoCard : Claim7 := { stood := { row := respEncodesUptoRow, standIns := [], harness := (true, "ee8afec00005c463051892df77a5c4659fdb96fa30319a3573b02d9e343d2a29"), looks := true }, kinds := [], alts := [], laidByText := true, laidKinds := [.data, .data, .data, .data, .sentinel, .sentinel, .pinned], laidTests := true, laidLooks := .later }
def RespEncodesUptoCardSaid : Prop := Claim7.holds Tryz.pinned (.plain (OpenSpec.upto respEncodesSpec)) respEncodesUptoCard

/-- THE SECOND FORM's CARD OF 'cisternlaw12.RespFeeds'. -/
def respFeedsUptoCard : Claim7 := { stood := { row := respFeedsUptoRow, standIns := [], harness := (true, "ee8afec00005c463051892df77a5c4659fdb96fa30319a3573b02d9e343d2a29"), looks := true }, kinds := [], alts := [], laidByText := true, laidKinds := [.data, .data, .data, .data, .sentinel, .sentinel, .pinned], laidTests := true, laidLooks := .later }
def RespFeedsUptoCardSaid : Prop := Claim7.holds Tryz.pinned (.plain (OpenSpec.upto respFeedsSpec)) respFeedsUptoCard

/-- THE SECOND FORM's CARD OF 'cisternlaw12.RespMakes'. -/
def respMakesUptoCard : Claim7 := { stood := { row := respMakesUptoRow, standIns := [], harness := (true, "ee8afec00005c463051892df77a5c4659fdb96fa30319a3573b02d9e343d2a29"), looks := true }, kinds := [], alts := [], laidByText := true, laidKinds := [.data, .data, .data, .data, .sentinel, .sentinel, .pinned], laidTests := true, laidLooks := .later }
def RespMakesUptoCardSaid : Prop := Claim7.holds Tryz.pinned (.plain (OpenSpec.upto respMakesSpec)) respMakesUptoCard
end Rows
end Go.Proofs.YtbmfbpcjokbjkaaGreatDoor
