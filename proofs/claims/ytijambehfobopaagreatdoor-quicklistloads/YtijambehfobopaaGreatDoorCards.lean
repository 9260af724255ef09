/-
  DERIVED. GIVEN WITH THE SEED: THE CARDS: each row of YtijambehfobopaaGreatDoorRows.lean that lists a variable, with what it lists TIED to the program's text (the seventh form; the later family's looks); each row that meets fmt, with fmt's text TOLD by the authors' own Lean function (tested against real Go, not proved from fmt's source: count such statements apart). THE CARD IS WHAT COUNTS. Prove the row's statement (the work); the ties are given (YtijambehfobopaaGreatDoorTie.lean); close each card by the builder's one call (the guide's Derived/Test/ToyasCard.lean, 'card_holds'). Laid BY PROGRAM, IN A SANDBOX (cutbox-door.mjs). By AI agents, Wed Nov 11 2026. No macro, syntax, notation, axiom, sorry.
-/
import Derived.Test.YtijambehfobopaaGreatDoorRows
import GoSem.ClaimSeven
namespace Go.Proofs.YtijambehfobopaaGreatDoor
namespace Rows

/-- THE TIED CARD OF 'cisternlaw07.QuicklistLoads'. -/
def quicklistLoadsCard : Claim7 := { stood := { row := quicklistLoadsRow, standIns := [], harness := (true, "abf37d0f523298e89a436900234224b520bb8f629c85cabbe3fff7d614cdc69d"), looks := true }, kinds := [], alts := [], laidByText := true, laidKinds := [.data, .data, .data, .sentinel, .sentinel, .data], laidTests := true, laidLooks := .later }
def QuicklistLoadsCardSaid : Prop := Claim7.holds Tryz.pinned (.plain (OpenSpec.ofChange quicklistLoadsSpec)) quicklistLoadsCard

/-- THE TIED CARD OF 'cisternlaw07.QuicklistShort'. -/
def quicklistShortCard : Claim7 := { stood := { row := quicklistShortRow, standIns := [], harness := (true, "abf37d0f523298e89a436900234224b520bb8f629c85cabbe3fff7d614cdc69d"), looks := true }, kinds := [], alts := [], laidByText := true, laidKinds := [.data, .data, .data, .sentinel, .sentinel, .data], laidTests := true, laidLooks := .later }
def QuicklistShortCardSaid : Prop := Claim7.holds Tryz.pinned (.plain (OpenSpec.ofChange quicklistShortSpec)) quicklistShortCard

/-- THE SECOND FORM's CARD OF 'cisternlaw07.QuicklistLoads'. -/
def quicklistLoadsUptoCard : Claim7 := { stood := { row := quicklistLoadsUptoRow, standIns := [], harness := (true, "abf37d0f523298e89a436900234224b520bb8f629c85cabbe3fff7d614cdc69d"), looks := true }, kinds := [], alts := [], laidByText := true, laidKinds := [.data, .data, .data, .sentinel, .sentinel, .data], laidTests := true, laidLooks := .later }
def QuicklistLoadsUptoCardSaid : Prop := Claim7.holds Tryz.pinned (.plain (OpenSpec.upto quicklistLoadsSpec)) quicklistLoadsUptoCard

/-- THE SECOND FORM's CARD OF 'cisternlaw07.QuicklistShort'. -/
def quicklistShortUptoCard : Claim7 := { stood := { row := quicklistShortUptoRow, standIns := [], harness := (true, "abf37d0f523298e89a436900234224b520bb8f629c85cabbe3fff7d614cdc69d"), looks := true }, kinds := [], alts := [], laidByText := true, laidKinds := [.data, .data, .data, .sentinel, .sentinel, .data], laidTests := true, laidLooks := .later }
def QuicklistShortUptoCardSaid : Prop := Claim7.holds Tryz.pinned (.plain (OpenSpec.upto quicklistShortSpec)) quicklistShortUptoCard
end Rows
end Go.Proofs.YtijambehfobopaaGreatDoor
