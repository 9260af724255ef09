/-
  DERIVED. GIVEN WITH THE SEED: THE CARDS: each row of YtafphabeihoijaaDoorRows.lean that lists a variable, with what it lists TIED to the program's text (the seventh form; the later family's looks); each row that meets fmt, with fmt's text TOLD by the authors' own Lean function (tested against real Go, not proved from fmt's source: count such statements apart). THE CARD IS WHAT COUNTS. Prove the row's statement (the work); the ties are given (YtafphabeihoijaaDoorTie.lean); close each card by the builder's one call (the guide's Derived/Test/ToyasCard.lean, 'card_holds'). Laid BY PROGRAM, IN A SANDBOX (cutbox-door.mjs). By AI agents, Wed Nov 11 2026. No macro, syntax, notation, axiom, sorry.
-/
import Derived.Test.YtafphabeihoijaaDoorRows
import GoSem.ClaimSeven
namespace Go.Proofs.YtafphabeihoijaaDoor
namespace Rows

/-- THE TIED CARD OF 'cisternlaw06.ListpackForm'. -/
def listpackFormCard : Claim7 := { stood := { row := listpackFormRow, standIns := [], harness := (true, "131e08c82ff4f35e403e5d79634dca5ee12f7227d73bc2db1bac76704ae9aa0f"), looks := true }, kinds := [], alts := [], laidByText := true, laidKinds := [.data, .data, .data, .sentinel, .sentinel, .data], laidTests := true, laidLooks := .later }
def ListpackFormCardSaid : Prop := Claim7.holds Tryd.pinned (.plain (OpenSpec.ofChange listpackFormSpec)) listpackFormCard

/-- THE TIED CARD OF 'cisternlaw06.ListpackOwn'. -/
def listpackOwnCard : Claim7 := { stood := { row := listpackOwnRow, standIns := [], harness := (true, "131e08c82ff4f35e403e5d79634dca5ee12f7227d73bc2db1bac76704ae9aa0f"), looks := true }, kinds := [], alts := [], laidByText := true, laidKinds := [.data, .data, .data, .sentinel, .sentinel, .data], laidTests := true, laidLooks := .later }
def ListpackOwnCardSaid : Prop := Claim7.holds Tryd.pinned (.plain (OpenSpec.ofChange listpackOwnSpec)) listpackOwnCard

/-- THE TIED CARD OF 'cisternlaw06.ListpackWays'. -/
def listpackWaysCard : Claim7 := { stood := { row := listpackWaysRow, standIns := [], harness := (true, "131e08c82ff4f35e403e5d79634dca5ee12f7227d73bc2db1bac76704ae9aa0f"), looks := true }, kinds := [], alts := [], laidByText := true, laidKinds := [.data, .data, .data, .sentinel, .sentinel, .data], laidTests := true, laidLooks := .later }
def ListpackWaysCardSaid : Prop := Claim7.holds Tryd.pinned (.plain (OpenSpec.ofChange listpackWaysSpec)) listpackWaysCard

/-- THE TIED CARD OF 'cisternlaw06.ListpackLists'. -/
def listpackListsCard : Claim7 := { stood := { row := listpackListsRow, standIns := [], harness := (true, "131e08c82ff4f35e403e5d79634dca5ee12f7227d73bc2db1bac76704ae9aa0f"), looks := true }, kinds := [], alts := [], laidByText := true, laidKinds := [.data, .data, .data, .sentinel, .sentinel, .data], laidTests := true, laidLooks := .later }
def ListpackListsCardSaid : Prop := Claim7.holds Tryd.pinned (.plain (OpenSpec.ofChange listpackListsSpec)) listpackListsCard

/-- THE TIED CARD OF 'cisternlaw06.ListpackNews'. -/
def listpackNewsCard : Claim7 := { stood := { row := listpackNewsRow, standIns := [], harness := (true, "131e08c82ff4f35e403e5d79634dca5ee12f7227d73bc2db1bac76704ae9aa0f"), looks := true }, kinds := [], alts := [], laidByText := true, laidKinds := [.data, .data, .data, .sentinel, .sentinel, .data], laidTests := true, laidLooks := .later }
def ListpackNewsCardSaid : Prop := Claim7.holds Tryd.pinned (.plain (OpenSpec.ofChange listpackNewsSpec)) listpackNewsCard

/-- THE SECOND FORM's CARD OF 'cisternlaw06.ListpackForm'. -/
def listpackFormUptoCard : Claim7 := { stood := { row := listpackFormUptoRow, standIns := [], harness := (true, "131e08c82ff4f35e403e5d79634dca5ee12f7227d73bc2db1bac76704ae9aa0f"), looks := true }, kinds := [], alts := [], laidByText := true, laidKinds := [.data, .data, .data, .sentinel, .sentinel, .data], laidTests := true, laidLooks := .later }
def ListpackFormUptoCardSaid : Prop := Claim7.holds Tryd.pinned (.plain (OpenSpec.upto listpackFormSpec)) listpackFormUptoCard

/-- THE SECOND FORM's CARD OF 'cisternlaw06.ListpackOwn'. -/
def listpackOwnUptoCard : Claim7 := { stood := { row := listpackOwnUptoRow, standIns := [], harness := (true, "131e08c82ff4f35e403e5d79634dca5ee12f7227d73bc2db1bac76704ae9aa0f"), looks := true }, kinds := [], alts := [], laidByText := true, laidKinds := [.data, .data, .data, .sentinel, .sentinel, .data], laidTests := true, laidLooks := .later }
def ListpackOwnUptoCardSaid : Prop := Claim7.holds Tryd.pinned (.plain (OpenSpec.upto listpackOwnSpec)) listpackOwnUptoCard

/-- THE SECOND FORM's CARD OF 'cisternlaw06.ListpackWays'. -/
def listpackWaysUptoCard : Claim7 := { stood := { row := listpackWaysUptoRow, standIns := [], harness := (true, "131e08c82ff4f35e403e5d79634dca5ee12f7227d73bc2db1bac76704ae9aa0f"), looks := true }, kinds := [], alts := [], laidByText := true, laidKinds := [.data, .data, .data, .sentinel, .sentinel, .data], laidTests := true, laidLooks := .later }
def ListpackWaysUptoCardSaid : Prop := Claim7.holds Tryd.pinned (.plain (OpenSpec.upto listpackWaysSpec)) listpackWaysUptoCard

/-- THE SECOND FORM's CARD OF 'cisternlaw06.ListpackLists'. -/
def listpackListsUptoCard : Claim7 := { stood := { row := listpackListsUptoRow, standIns := [], harness := (true, "131e08c82ff4f35e403e5d79634dca5ee12f7227d73bc2db1bac76704ae9aa0f"), looks := true }, kinds := [], alts := [], laidByText := true, laidKinds := [.data, .data, .data, .sentinel, .sentinel, .data], laidTests := true, laidLooks := .later }
def ListpackListsUptoCardSaid : Prop := Claim7.holds Tryd.pinned (.plain (OpenSpec.upto listpackListsSpec)) listpackListsUptoCard

/-- THE SECOND FORM's CARD OF 'cisternlaw06.ListpackNews'. -/
def listpackNewsUptoCard : Claim7 := { stood := { row := listpackNewsUptoRow, standIns := [], harness := (true, "131e08c82ff4f35e403e5d79634dca5ee12f7227d73bc2db1bac76704ae9aa0f"), looks := true }, kinds := [], alts := [], laidByText := true, laidKinds := [.data, .data, .data, .sentinel, .sentinel, .data], laidTests := true, laidLooks := .later }
def ListpackNewsUptoCardSaid : Prop := Claim7.holds Tryd.pinned (.plain (OpenSpec.upto listpackNewsSpec)) listpackNewsUptoCard
end Rows
end Go.Proofs.YtafphabeihoijaaDoor
