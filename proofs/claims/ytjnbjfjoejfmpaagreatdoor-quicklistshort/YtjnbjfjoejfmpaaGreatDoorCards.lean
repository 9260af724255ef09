/-
  DERIVED. GIVEN WITH THE SEED: THE CARDS: each row of YtjnbjfjoejfmpaaGreatDoorRows.lean that lists a variable, with what it lists TIED to the program's text (the seventh form; the later family's looks); each row that meets fmt, with fmt's text TOLD by the authors' own Lean function (tested against real Go, not proved from fmt's source: count such statements apart). THE CARD IS WHAT COUNTS. Prove the row's statement (the work); the ties are given (YtjnbjfjoejfmpaaGreatDoorTie.lean); close each card by the builder's one call (the guide's Derived/Test/ToyasCard.lean, 'card_holds'). Laid BY PROGRAM, IN A SANDBOX (cutbox-door.mjs). By AI agents, Wed Nov 11 2026. No macro, syntax, notation, axiom, sorry.
-/
import Derived.Test.YtjnbjfjoejfmpaaGreatDoorRows
import GoSem.ClaimSeven
namespace Go.Proofs.YtjnbjfjoejfmpaaGreatDoor
namespace Rows

/-- THE TIED CARD OF 'cisternlaw07.QuicklistLoads'. -/
def quicklistLoadsCard : Claim7 := { stood := { row := quicklistLoadsRow, standIns := [], harness := (true, "42f8de4642b41c17ea80a43df1e8345d95f29928789a0cadd3c480b7109dd4e9"), looks := true }, kinds := [], alts := [], laidByText := true, laidKinds := [.data, .data, .data, .sentinel, .sentinel, .data], laidTests := true, laidLooks := .later }
def QuicklistLoadsCardSaid : Prop := Claim7.holds Tryz.pinned (.plain (OpenSpec.ofChange quicklistLoadsSpec)) quicklistLoadsCard

/-- THE TIED CARD OF 'cisternlaw07.QuicklistEnds'. -/
def quicklistEndsCard : Claim7 := { stood := { row := quicklistEndsRow, standIns := [], harness := (true, "42f8de4642b41c17ea80a43df1e8345d95f29928789a0cadd3c480b7109dd4e9"), looks := true }, kinds := [], alts := [], laidByText := true, laidKinds := [.data, .data, .data, .sentinel, .sentinel, .data], laidTests := true, laidLooks := .later }
def QuicklistEndsCardSaid : Prop := Claim7.holds Tryz.pinned (.plain (OpenSpec.ofChange quicklistEndsSpec)) quicklistEndsCard

/-- THE TIED CARD OF 'cisternlaw07.QuicklistMidst'. -/
def quicklistMidstCard : Claim7 := { stood := { row := quicklistMidstRow, standIns := [], harness := (true, "42f8de4642b41c17ea80a43df1e8345d95f29928789a0cadd3c480b7109dd4e9"), looks := true }, kinds := [], alts := [], laidByText := true, laidKinds := [.data, .data, .data, .sentinel, .sentinel, .data], laidTests := true, laidLooks := .later }
def QuicklistMidstCardSaid : Prop := Claim7.holds Tryz.pinned (.plain (OpenSpec.ofChange quicklistMidstSpec)) quicklistMidstCard

/-- THE TIED CARD OF 'cisternlaw07.QuicklistAsks'. -/
def quicklistAsksCard : Claim7 := { stood := { row := quicklistAsksRow, standIns := [], harness := (true, "42f8de4642b41c17ea80a43df1e8345d95f29928789a0cadd3c480b7109dd4e9"), looks := true }, kinds := [], alts := [], laidByText := true, laidKinds := [.data, .data, .data, .sentinel, .sentinel, .data], laidTests := true, laidLooks := .later }
def QuicklistAsksCardSaid : Prop := Claim7.holds Tryz.pinned (.plain (OpenSpec.ofChange quicklistAsksSpec)) quicklistAsksCard

/-- THE TIED CARD OF 'cisternlaw07.QuicklistAll'. -/
def quicklistAllCard : Claim7 := { stood := { row := quicklistAllRow, standIns := [], harness := (true, "42f8de4642b41c17ea80a43df1e8345d95f29928789a0cadd3c480b7109dd4e9"), looks := true }, kinds := [], alts := [], laidByText := true, laidKinds := [.data, .data, .data, .sentinel, .sentinel, .data], laidTests := true, laidLooks := .later }
def QuicklistAllCardSaid : Prop := Claim7.holds Tryz.pinned (.plain (OpenSpec.ofChange quicklistAllSpec)) quicklistAllCard

/-- THE TIED CARD OF 'cisternlaw07.QuicklistShort'. -/
def quicklistShortCard : Claim7 := { stood := { row := quicklistShortRow, standIns := [], harness := (true, "42f8de4642b41c17ea80a43df1e8345d95f29928789a0cadd3c480b7109dd4e9"), looks := true }, kinds := [], alts := [], laidByText := true, laidKinds := [.data, .data, .data, .sentinel, .sentinel, .data], laidTests := true, laidLooks := .later }
def QuicklistShortCardSaid : Prop := Claim7.holds Tryz.pinned (.plain (OpenSpec.ofChange quicklistShortSpec)) quicklistShortCard

/-- THE SECOND FORM's CARD OF 'cisternlaw07.QuicklistLoads'. -/
def quicklistLoadsUptoCard : Claim7 := { stood := { row := quicklistLoadsUptoRow, standIns := [], harness := (true, "42f8de4642b41c17ea80a43df1e8345d95f29928789a0cadd3c480b7109dd4e9"), looks := true }, kinds := [], alts := [], laidByText := true, laidKinds := [.data, .data, .data, .sentinel, .sentinel, .data], laidTests := true, laidLooks := .later }
def QuicklistLoadsUptoCardSaid : Prop := Claim7.holds Tryz.pinned (.plain (OpenSpec.upto quicklistLoadsSpec)) quicklistLoadsUptoCard

/-- THE SECOND FORM's CARD OF 'cisternlaw07.QuicklistEnds'. -/
def quicklistEndsUptoCard : Claim7 := { stood := { row := quicklistEndsUptoRow, standIns := [], harness := (true, "42f8de4642b41c17ea80a43df1e8345d95f29928789a0cadd3c480b7109dd4e9"), looks := true }, kinds := [], alts := [], laidByText := true, laidKinds := [.data, .data, .data, .sentinel, .sentinel, .data], laidTests := true, laidLooks := .later }
def QuicklistEndsUptoCardSaid : Prop := Claim7.holds Tryz.pinned (.plain (OpenSpec.upto quicklistEndsSpec)) quicklistEndsUptoCard

/-- THE SECOND FORM's CARD OF 'cisternlaw07.QuicklistMidst'. -/
def quicklistMidstUptoCard : Claim7 := { stood := { row := quicklistMidstUptoRow, standIns := [], harness := (true, "42f8de4642b41c17ea80a43df1e8345d95f29928789a0cadd3c480b7109dd4e9"), looks := true }, kinds := [], alts := [], laidByText := true, laidKinds := [.data, .data, .data, .sentinel, .sentinel, .data], laidTests := true, laidLooks := .later }
def QuicklistMidstUptoCardSaid : Prop := Claim7.holds Tryz.pinned (.plain (OpenSpec.upto quicklistMidstSpec)) quicklistMidstUptoCard

/-- THE SECOND FORM's CARD OF 'cisternlaw07.QuicklistAsks'. -/
def quicklistAsksUptoCard : Claim7 := { stood := { row := quicklistAsksUptoRow, standIns := [], harness := (true, "42f8de4642b41c17ea80a43df1e8345d95f29928789a0cadd3c480b7109dd4e9"), looks := true }, kinds := [], alts := [], laidByText := true, laidKinds := [.data, .data, .data, .sentinel, .sentinel, .data], laidTests := true, laidLooks := .later }
def QuicklistAsksUptoCardSaid : Prop := Claim7.holds Tryz.pinned (.plain (OpenSpec.upto quicklistAsksSpec)) quicklistAsksUptoCard

/-- THE SECOND FORM's CARD OF 'cisternlaw07.QuicklistAll'. -/
def quicklistAllUptoCard : Claim7 := { stood := { row := quicklistAllUptoRow, standIns := [], harness := (true, "42f8de4642b41c17ea80a43df1e8345d95f29928789a0cadd3c480b7109dd4e9"), looks := true }, kinds := [], alts := [], laidByText := true, laidKinds := [.data, .data, .data, .sentinel, .sentinel, .data], laidTests := true, laidLooks := .later }
def QuicklistAllUptoCardSaid : Prop := Claim7.holds Tryz.pinned (.plain (OpenSpec.upto quicklistAllSpec)) quicklistAllUptoCard

/-- THE SECOND FORM's CARD OF 'cisternlaw07.QuicklistShort'. -/
def quicklistShortUptoCard : Claim7 := { stood := { row := quicklistShortUptoRow, standIns := [], harness := (true, "42f8de4642b41c17ea80a43df1e8345d95f29928789a0cadd3c480b7109dd4e9"), looks := true }, kinds := [], alts := [], laidByText := true, laidKinds := [.data, .data, .data, .sentinel, .sentinel, .data], laidTests := true, laidLooks := .later }
def QuicklistShortUptoCardSaid : Prop := Claim7.holds Tryz.pinned (.plain (OpenSpec.upto quicklistShortSpec)) quicklistShortUptoCard
end Rows
end Go.Proofs.YtjnbjfjoejfmpaaGreatDoor
