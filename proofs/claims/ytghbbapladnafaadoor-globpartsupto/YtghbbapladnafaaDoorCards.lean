/-
  DERIVED. GIVEN WITH THE SEED: THE CARDS: each row of YtghbbapladnafaaDoorRows.lean that lists a variable, with what it lists TIED to the program's text (the seventh form; the later family's looks); each row that meets fmt, with fmt's text TOLD by the authors' own Lean function (tested against real Go, not proved from fmt's source: count such statements apart). THE CARD IS WHAT COUNTS. Prove the row's statement (the work); the ties are given (YtghbbapladnafaaDoorTie.lean); close each card by the builder's one call (the guide's Derived/Test/ToyasCard.lean, 'card_holds'). Laid BY PROGRAM, IN A SANDBOX (cutbox-door.mjs). By AI agents, Wed Nov 11 2026. No macro, syntax, notation, axiom, sorry.
-/
import Derived.Test.YtghbbapladnafaaDoorRows
import GoSem.ClaimSeven
namespace Go.Proofs.YtghbbapladnafaaDoor
namespace Rows

/-- THE TIED CARD OF 'cisternlaw04.GlobFolds'. -/
def globFoldsCard : Claim7 := { stood := { row := globFoldsRow, standIns := [], harness := (true, "67cb3ce511a953cfe77f5284fcfbed861388ddf82f555466a2470573183c3bcf"), looks := true }, kinds := [], alts := [], laidByText := true, laidKinds := [.data, .data, .data, .sentinel, .sentinel], laidTests := true, laidLooks := .later }
def GlobFoldsCardSaid : Prop := Claim7.holds Tryd.pinned (.plain (OpenSpec.ofChange globFoldsSpec)) globFoldsCard

/-- THE TIED CARD OF 'cisternlaw04.GlobSlow'. -/
def globSlowCard : Claim7 := { stood := { row := globSlowRow, standIns := [], harness := (true, "67cb3ce511a953cfe77f5284fcfbed861388ddf82f555466a2470573183c3bcf"), looks := true }, kinds := [], alts := [], laidByText := true, laidKinds := [.data, .data, .data, .sentinel, .sentinel], laidTests := true, laidLooks := .later }
def GlobSlowCardSaid : Prop := Claim7.holds Tryd.pinned (.plain (OpenSpec.ofChange globSlowSpec)) globSlowCard

/-- THE TIED CARD OF 'cisternlaw04.GlobLiteral'. -/
def globLiteralCard : Claim7 := { stood := { row := globLiteralRow, standIns := [], harness := (true, "67cb3ce511a953cfe77f5284fcfbed861388ddf82f555466a2470573183c3bcf"), looks := true }, kinds := [], alts := [], laidByText := true, laidKinds := [.data, .data, .data, .sentinel, .sentinel], laidTests := true, laidLooks := .later }
def GlobLiteralCardSaid : Prop := Claim7.holds Tryd.pinned (.plain (OpenSpec.ofChange globLiteralSpec)) globLiteralCard

/-- THE TIED CARD OF 'cisternlaw04.GlobParts'. -/
def globPartsCard : Claim7 := { stood := { row := globPartsRow, standIns := [], harness := (true, "67cb3ce511a953cfe77f5284fcfbed861388ddf82f555466a2470573183c3bcf"), looks := true }, kinds := [], alts := [], laidByText := true, laidKinds := [.data, .data, .data, .sentinel, .sentinel], laidTests := true, laidLooks := .later }
def GlobPartsCardSaid : Prop := Claim7.holds Tryd.pinned (.plain (OpenSpec.ofChange globPartsSpec)) globPartsCard

/-- THE TIED CARD OF 'cisternlaw04.GlobQuotes'. -/
def globQuotesCard : Claim7 := { stood := { row := globQuotesRow, standIns := [], harness := (true, "67cb3ce511a953cfe77f5284fcfbed861388ddf82f555466a2470573183c3bcf"), looks := true }, kinds := [], alts := [], laidByText := true, laidKinds := [.data, .data, .data, .sentinel, .sentinel], laidTests := true, laidLooks := .later }
def GlobQuotesCardSaid : Prop := Claim7.holds Tryd.pinned (.plain (OpenSpec.ofChange globQuotesSpec)) globQuotesCard

/-- THE TIED CARD OF 'cisternlaw04.GlobMatches'. -/
def globMatchesCard : Claim7 := { stood := { row := globMatchesRow, standIns := [], harness := (true, "67cb3ce511a953cfe77f5284fcfbed861388ddf82f555466a2470573183c3bcf"), looks := true }, kinds := [], alts := [], laidByText := true, laidKinds := [.data, .data, .data, .sentinel, .sentinel], laidTests := true, laidLooks := .later }
def GlobMatchesCardSaid : Prop := Claim7.holds Tryd.pinned (.plain (OpenSpec.ofChange globMatchesSpec)) globMatchesCard

/-- THE SECOND FORM's CARD OF 'cisternlaw04.GlobFolds'. -/
def globFoldsUptoCard : Claim7 := { stood := { row := globFoldsUptoRow, standIns := [], harness := (true, "67cb3ce511a953cfe77f5284fcfbed861388ddf82f555466a2470573183c3bcf"), looks := true }, kinds := [], alts := [], laidByText := true, laidKinds := [.data, .data, .data, .sentinel, .sentinel], laidTests := true, laidLooks := .later }
def GlobFoldsUptoCardSaid : Prop := Claim7.holds Tryd.pinned (.plain (OpenSpec.upto globFoldsSpec)) globFoldsUptoCard

/-- THE SECOND FORM's CARD OF 'cisternlaw04.GlobSlow'. -/
def globSlowUptoCard : Claim7 := { stood := { row := globSlowUptoRow, standIns := [], harness := (true, "67cb3ce511a953cfe77f5284fcfbed861388ddf82f555466a2470573183c3bcf"), looks := true }, kinds := [], alts := [], laidByText := true, laidKinds := [.data, .data, .data, .sentinel, .sentinel], laidTests := true, laidLooks := .later }
def GlobSlowUptoCardSaid : Prop := Claim7.holds Tryd.pinned (.plain (OpenSpec.upto globSlowSpec)) globSlowUptoCard

/-- THE SECOND FORM's CARD OF 'cisternlaw04.GlobLiteral'. -/
def globLiteralUptoCard : Claim7 := { stood := { row := globLiteralUptoRow, standIns := [], harness := (true, "67cb3ce511a953cfe77f5284fcfbed861388ddf82f555466a2470573183c3bcf"), looks := true }, kinds := [], alts := [], laidByText := true, laidKinds := [.data, .data, .data, .sentinel, .sentinel], laidTests := true, laidLooks := .later }
def GlobLiteralUptoCardSaid : Prop := Claim7.holds Tryd.pinned (.plain (OpenSpec.upto globLiteralSpec)) globLiteralUptoCard

/-- THE SECOND FORM's CARD OF 'cisternlaw04.GlobParts'. -/
def globPartsUptoCard : Claim7 := { stood := { row := globPartsUptoRow, standIns := [], harness := (true, "67cb3ce511a953cfe77f5284fcfbed861388ddf82f555466a2470573183c3bcf"), looks := true }, kinds := [], alts := [], laidByText := true, laidKinds := [.data, .data, .data, .sentinel, .sentinel], laidTests := true, laidLooks := .later }
def GlobPartsUptoCardSaid : Prop := Claim7.holds Tryd.pinned (.plain (OpenSpec.upto globPartsSpec)) globPartsUptoCard

/-- THE SECOND FORM's CARD OF 'cisternlaw04.GlobQuotes'. -/
def globQuotesUptoCard : Claim7 := { stood := { row := globQuotesUptoRow, standIns := [], harness := (true, "67cb3ce511a953cfe77f5284fcfbed861388ddf82f555466a2470573183c3bcf"), looks := true }, kinds := [], alts := [], laidByText := true, laidKinds := [.data, .data, .data, .sentinel, .sentinel], laidTests := true, laidLooks := .later }
def GlobQuotesUptoCardSaid : Prop := Claim7.holds Tryd.pinned (.plain (OpenSpec.upto globQuotesSpec)) globQuotesUptoCard

/-- THE SECOND FORM's CARD OF 'cisternlaw04.GlobMatches'. -/
def globMatchesUptoCard : Claim7 := { stood := { row := globMatchesUptoRow, standIns := [], harness := (true, "67cb3ce511a953cfe77f5284fcfbed861388ddf82f555466a2470573183c3bcf"), looks := true }, kinds := [], alts := [], laidByText := true, laidKinds := [.data, .data, .data, .sentinel, .sentinel], laidTests := true, laidLooks := .later }
def GlobMatchesUptoCardSaid : Prop := Claim7.holds Tryd.pinned (.plain (OpenSpec.upto globMatchesSpec)) globMatchesUptoCard
end Rows
end Go.Proofs.YtghbbapladnafaaDoor
