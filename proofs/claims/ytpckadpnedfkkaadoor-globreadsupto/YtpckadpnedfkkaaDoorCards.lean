/-
  DERIVED. GIVEN WITH THE SEED: THE CARDS: each row of YtpckadpnedfkkaaDoorRows.lean that lists a variable, with what it lists TIED to the program's text (the seventh form; the later family's looks); each row that meets fmt, with fmt's text TOLD by the authors' own Lean function (tested against real Go, not proved from fmt's source: count such statements apart). THE CARD IS WHAT COUNTS. Prove the row's statement (the work); the ties are given (YtpckadpnedfkkaaDoorTie.lean); close each card by the builder's one call (the guide's Derived/Test/ToyasCard.lean, 'card_holds'). Laid BY PROGRAM, IN A SANDBOX (cutbox-door.mjs). By AI agents, Wed Nov 11 2026. No macro, syntax, notation, axiom, sorry.
-/
import Derived.Test.YtpckadpnedfkkaaDoorRows
import GoSem.ClaimSeven
namespace Go.Proofs.YtpckadpnedfkkaaDoor
namespace Rows

/-- THE TIED CARD OF 'cisternlaw04.GlobMatches'. -/
def globMatchesCard : Claim7 := { stood := { row := globMatchesRow, standIns := [], harness := (true, "6d63af80dc7b60ebf77b8f9d2a0e5f2b93e4ce8396c4c94f9113197669941e64"), looks := true }, kinds := [], alts := [], laidByText := true, laidKinds := [.data, .data, .data, .sentinel, .sentinel], laidTests := true, laidLooks := .later }
def GlobMatchesCardSaid : Prop := Claim7.holds Tryd.pinned (.plain (OpenSpec.ofChange globMatchesSpec)) globMatchesCard

/-- THE TIED CARD OF 'cisternlaw04.GlobReads'. -/
def globReadsCard : Claim7 := { stood := { row := globReadsRow, standIns := [], harness := (true, "6d63af80dc7b60ebf77b8f9d2a0e5f2b93e4ce8396c4c94f9113197669941e64"), looks := true }, kinds := [], alts := [], laidByText := true, laidKinds := [.data, .data, .data, .sentinel, .sentinel], laidTests := true, laidLooks := .later }
def GlobReadsCardSaid : Prop := Claim7.holds Tryd.pinned (.plain (OpenSpec.ofChange globReadsSpec)) globReadsCard

/-- THE SECOND FORM's CARD OF 'cisternlaw04.GlobMatches'. -/
def globMatchesUptoCard : Claim7 := { stood := { row := globMatchesUptoRow, standIns := [], harness := (true, "6d63af80dc7b60ebf77b8f9d2a0e5f2b93e4ce8396c4c94f9113197669941e64"), looks := true }, kinds := [], alts := [], laidByText := true, laidKinds := [.data, .data, .data, .sentinel, .sentinel], laidTests := true, laidLooks := .later }
def GlobMatchesUptoCardSaid : Prop := Claim7.holds Tryd.pinned (.plain (OpenSpec.upto globMatchesSpec)) globMatchesUptoCard

/-- THE SECOND FORM's CARD OF 'cisternlaw04.GlobReads'. -/
def globReadsUptoCard : Claim7 := { stood := { row := globReadsUptoRow, standIns := [], harness := (true, "6d63af80dc7b60ebf77b8f9d2a0e5f2b93e4ce8396c4c94f9113197669941e64"), looks := true }, kinds := [], alts := [], laidByText := true, laidKinds := [.data, .data, .data, .sentinel, .sentinel], laidTests := true, laidLooks := .later }
def GlobReadsUptoCardSaid : Prop := Claim7.holds Tryd.pinned (.plain (OpenSpec.upto globReadsSpec)) globReadsUptoCard
end Rows
end Go.Proofs.YtpckadpnedfkkaaDoor
