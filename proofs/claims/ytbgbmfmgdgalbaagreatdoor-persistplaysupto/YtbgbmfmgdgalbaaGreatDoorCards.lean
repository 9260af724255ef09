/-
  DERIVED. GIVEN WITH THE SEED: THE CARDS: each row of YtbgbmfmgdgalbaaGreatDoorRows.lean that lists a variable, with what it lists TIED to the program's text (the seventh form; the later family's looks); each row that meets fmt, with fmt's text TOLD by the authors' own Lean function (tested against real Go, not proved from fmt's source: count such statements apart). THE CARD IS WHAT COUNTS. Prove the row's statement (the work); the ties are given (YtbgbmfmgdgalbaaGreatDoorTie.lean); close each card by the builder's one call (the guide's Derived/Test/ToyasCard.lean, 'card_holds'). Laid BY PROGRAM, IN A SANDBOX (cutbox-door.mjs). By AI agents, Wed Nov 11 2026. No macro, syntax, notation, axiom, sorry.
-/
import Derived.Test.YtbgbmfmgdgalbaaGreatDoorRows
import GoSem.ClaimSeven
namespace Go.Proofs.YtbgbmfmgdgalbaaGreatDoor
namespace Rows

/-- THE TIED CARD OF 'cisternlaw24.PersistKeeps'. -/
def persistKeepsCard : Claim7 := { stood := { row := persistKeepsRow, standIns := [], harness := (true, "ffb09901f0085b6715ed66b31d5b2686904a08004dc13c6b1793c998eabf4f70"), looks := true }, kinds := [], alts := [], laidByText := true, laidKinds := [.data, .data, .data], laidTests := true, laidLooks := .later }
def PersistKeepsCardSaid : Prop := Claim7.holds Tryz.pinned (.plain (OpenSpec.ofChange persistKeepsSpec)) persistKeepsCard

/-- THE TIED CARD OF 'cisternlaw24.PersistFound'. -/
def persistFoundCard : Claim7 := { stood := { row := persistFoundRow, standIns := [], harness := (true, "ffb09901f0085b6715ed66b31d5b2686904a08004dc13c6b1793c998eabf4f70"), looks := true }, kinds := [], alts := [], laidByText := true, laidKinds := [.data, .data, .data], laidTests := true, laidLooks := .later }
def PersistFoundCardSaid : Prop := Claim7.holds Tryz.pinned (.plain (OpenSpec.ofChange persistFoundSpec)) persistFoundCard

/-- THE TIED CARD OF 'cisternlaw24.PersistWhole'. -/
def persistWholeCard : Claim7 := { stood := { row := persistWholeRow, standIns := [], harness := (true, "ffb09901f0085b6715ed66b31d5b2686904a08004dc13c6b1793c998eabf4f70"), looks := true }, kinds := [], alts := [], laidByText := true, laidKinds := [.data, .data, .data], laidTests := true, laidLooks := .later }
def PersistWholeCardSaid : Prop := Claim7.holds Tryz.pinned (.plain (OpenSpec.ofChange persistWholeSpec)) persistWholeCard

/-- THE TIED CARD OF 'cisternlaw24.PersistPlays'. -/
def persistPlaysCard : Claim7 := { stood := { row := persistPlaysRow, standIns := [], harness := (true, "ffb09901f0085b6715ed66b31d5b2686904a08004dc13c6b1793c998eabf4f70"), looks := true }, kinds := [], alts := [], laidByText := true, laidKinds := [.data, .data, .data], laidTests := true, laidLooks := .later }
def PersistPlaysCardSaid : Prop := Claim7.holds Tryz.pinned (.plain (OpenSpec.ofChange persistPlaysSpec)) persistPlaysCard

/-- THE SECOND FORM's CARD OF 'cisternlaw24.PersistKeeps'. -/
def persistKeepsUptoCard : Claim7 := { stood := { row := persistKeepsUptoRow, standIns := [], harness := (true, "ffb09901f0085b6715ed66b31d5b2686904a08004dc13c6b1793c998eabf4f70"), looks := true }, kinds := [], alts := [], laidByText := true, laidKinds := [.data, .data, .data], laidTests := true, laidLooks := .later }
def PersistKeepsUptoCardSaid : Prop := Claim7.holds Tryz.pinned (.plain (OpenSpec.upto persistKeepsSpec)) persistKeepsUptoCard

/-- THE SECOND FORM's CARD OF 'cisternlaw24.PersistFound'. -/
def persistFoundUptoCard : Claim7 := { stood := { row := persistFoundUptoRow, standIns := [], harness := (true, "ffb09901f0085b6715ed66b31d5b2686904a08004dc13c6b1793c998eabf4f70"), looks := true }, kinds := [], alts := [], laidByText := true, laidKinds := [.data, .data, .data], laidTests := true, laidLooks := .later }
def PersistFoundUptoCardSaid : Prop := Claim7.holds Tryz.pinned (.plain (OpenSpec.upto persistFoundSpec)) persistFoundUptoCard

/-- THE SECOND FORM's CARD OF 'cisternlaw24.PersistWhole'. -/
def persistWholeUptoCard : Claim7 := { stood := { row := persistWholeUptoRow, standIns := [], harness := (true, "ffb09901f0085b6715ed66b31d5b2686904a08004dc13c6b1793c998eabf4f70"), looks := true }, kinds := [], alts := [], laidByText := true, laidKinds := [.data, .data, .data], laidTests := true, laidLooks := .later }
def PersistWholeUptoCardSaid : Prop := Claim7.holds Tryz.pinned (.plain (OpenSpec.upto persistWholeSpec)) persistWholeUptoCard

/-- THE SECOND FORM's CARD OF 'cisternlaw24.PersistPlays'. -/
def persistPlaysUptoCard : Claim7 := { stood := { row := persistPlaysUptoRow, standIns := [], harness := (true, "ffb09901f0085b6715ed66b31d5b2686904a08004dc13c6b1793c998eabf4f70"), looks := true }, kinds := [], alts := [], laidByText := true, laidKinds := [.data, .data, .data], laidTests := true, laidLooks := .later }
def PersistPlaysUptoCardSaid : Prop := Claim7.holds Tryz.pinned (.plain (OpenSpec.upto persistPlaysSpec)) persistPlaysUptoCard
end Rows
end Go.Proofs.YtbgbmfmgdgalbaaGreatDoor
