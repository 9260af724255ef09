/-
  DERIVED. GIVEN WITH THE SEED: THE CARDS: each row of YtgbplghokciimaaDoorRows.lean that lists a variable, with what it lists TIED to the program's text (the seventh form; the later family's looks); each row that meets fmt, with fmt's text TOLD by the authors' own Lean function (tested against real Go, not proved from fmt's source: count such statements apart). THE CARD IS WHAT COUNTS. Prove the row's statement (the work); the ties are given (YtgbplghokciimaaDoorTie.lean); close each card by the builder's one call (the guide's Derived/Test/ToyasCard.lean, 'card_holds'). Laid BY PROGRAM, IN A SANDBOX (cutbox-door.mjs). By AI agents, Wed Nov 11 2026. No macro, syntax, notation, axiom, sorry.
-/
import Derived.Test.YtgbplghokciimaaDoorRows
import GoSem.ClaimSeven
namespace Go.Proofs.YtgbplghokciimaaDoor
namespace Rows

/-- THE TIED CARD OF 'cisternlaw09.SkiplistOrder'. -/
def skiplistOrderCard : Claim7 := { stood := { row := skiplistOrderRow, standIns := [], harness := (true, "7a763beddc5851a4ee5f3eb8534f2a223e6ca4388d052c0f88f92116f16cdc69"), looks := false }, kinds := [], alts := [], laidByText := true, laidKinds := [.data], laidTests := true, laidLooks := .later }
def SkiplistOrderCardSaid : Prop := Claim7.holds Tryd.pinned (.plain (OpenSpec.ofChange skiplistOrderSpec)) skiplistOrderCard

/-- THE TIED CARD OF 'cisternlaw09.SkiplistOwn'. -/
def skiplistOwnCard : Claim7 := { stood := { row := skiplistOwnRow, standIns := [], harness := (true, "7a763beddc5851a4ee5f3eb8534f2a223e6ca4388d052c0f88f92116f16cdc69"), looks := false }, kinds := [], alts := [], laidByText := true, laidKinds := [.data], laidTests := true, laidLooks := .later }
def SkiplistOwnCardSaid : Prop := Claim7.holds Tryd.pinned (.plain (OpenSpec.ofChange skiplistOwnSpec)) skiplistOwnCard

/-- THE TIED CARD OF 'cisternlaw09.SkiplistSets'. -/
def skiplistSetsCard : Claim7 := { stood := { row := skiplistSetsRow, standIns := [], harness := (true, "7a763beddc5851a4ee5f3eb8534f2a223e6ca4388d052c0f88f92116f16cdc69"), looks := false }, kinds := [], alts := [], laidByText := true, laidKinds := [.data], laidTests := true, laidLooks := .later }
def SkiplistSetsCardSaid : Prop := Claim7.holds Tryd.pinned (.plain (OpenSpec.ofChange skiplistSetsSpec)) skiplistSetsCard

/-- THE TIED CARD OF 'cisternlaw09.SkiplistRanks'. -/
def skiplistRanksCard : Claim7 := { stood := { row := skiplistRanksRow, standIns := [], harness := (true, "7a763beddc5851a4ee5f3eb8534f2a223e6ca4388d052c0f88f92116f16cdc69"), looks := false }, kinds := [], alts := [], laidByText := true, laidKinds := [.data], laidTests := true, laidLooks := .later }
def SkiplistRanksCardSaid : Prop := Claim7.holds Tryd.pinned (.plain (OpenSpec.ofChange skiplistRanksSpec)) skiplistRanksCard

/-- THE TIED CARD OF 'cisternlaw09.SkiplistRanges'. -/
def skiplistRangesCard : Claim7 := { stood := { row := skiplistRangesRow, standIns := [], harness := (true, "7a763beddc5851a4ee5f3eb8534f2a223e6ca4388d052c0f88f92116f16cdc69"), looks := false }, kinds := [], alts := [], laidByText := true, laidKinds := [.data], laidTests := true, laidLooks := .later }
def SkiplistRangesCardSaid : Prop := Claim7.holds Tryd.pinned (.plain (OpenSpec.ofChange skiplistRangesSpec)) skiplistRangesCard

/-- THE TIED CARD OF 'cisternlaw09.SkiplistTall'. -/
def skiplistTallCard : Claim7 := { stood := { row := skiplistTallRow, standIns := [], harness := (true, "7a763beddc5851a4ee5f3eb8534f2a223e6ca4388d052c0f88f92116f16cdc69"), looks := false }, kinds := [], alts := [], laidByText := true, laidKinds := [.data], laidTests := true, laidLooks := .later }
def SkiplistTallCardSaid : Prop := Claim7.holds Tryd.pinned (.plain (OpenSpec.ofChange skiplistTallSpec)) skiplistTallCard

/-- THE SECOND FORM's CARD OF 'cisternlaw09.SkiplistOrder'. -/
def skiplistOrderUptoCard : Claim7 := { stood := { row := skiplistOrderUptoRow, standIns := [], harness := (true, "7a763beddc5851a4ee5f3eb8534f2a223e6ca4388d052c0f88f92116f16cdc69"), looks := false }, kinds := [], alts := [], laidByText := true, laidKinds := [.data], laidTests := true, laidLooks := .later }
def SkiplistOrderUptoCardSaid : Prop := Claim7.holds Tryd.pinned (.plain (OpenSpec.upto skiplistOrderSpec)) skiplistOrderUptoCard

/-- THE SECOND FORM's CARD OF 'cisternlaw09.SkiplistOwn'. -/
def skiplistOwnUptoCard : Claim7 := { stood := { row := skiplistOwnUptoRow, standIns := [], harness := (true, "7a763beddc5851a4ee5f3eb8534f2a223e6ca4388d052c0f88f92116f16cdc69"), looks := false }, kinds := [], alts := [], laidByText := true, laidKinds := [.data], laidTests := true, laidLooks := .later }
def SkiplistOwnUptoCardSaid : Prop := Claim7.holds Tryd.pinned (.plain (OpenSpec.upto skiplistOwnSpec)) skiplistOwnUptoCard

/-- THE SECOND FORM's CARD OF 'cisternlaw09.SkiplistSets'. -/
def skiplistSetsUptoCard : Claim7 := { stood := { row := skiplistSetsUptoRow, standIns := [], harness := (true, "7a763beddc5851a4ee5f3eb8534f2a223e6ca4388d052c0f88f92116f16cdc69"), looks := false }, kinds := [], alts := [], laidByText := true, laidKinds := [.data], laidTests := true, laidLooks := .later }
def SkiplistSetsUptoCardSaid : Prop := Claim7.holds Tryd.pinned (.plain (OpenSpec.upto skiplistSetsSpec)) skiplistSetsUptoCard

/-- THE SECOND FORM's CARD OF 'cisternlaw09.SkiplistRanks'. -/
def skiplistRanksUptoCard : Claim7 := { stood := { row := skiplistRanksUptoRow, standIns := [], harness := (true, "7a763beddc5851a4ee5f3eb8534f2a223e6ca4388d052c0f88f92116f16cdc69"), looks := false }, kinds := [], alts := [], laidByText := true, laidKinds := [.data], laidTests := true, laidLooks := .later }
def SkiplistRanksUptoCardSaid : Prop := Claim7.holds Tryd.pinned (.plain (OpenSpec.upto skiplistRanksSpec)) skiplistRanksUptoCard

/-- THE SECOND FORM's CARD OF 'cisternlaw09.SkiplistRanges'. -/
def skiplistRangesUptoCard : Claim7 := { stood := { row := skiplistRangesUptoRow, standIns := [], harness := (true, "7a763beddc5851a4ee5f3eb8534f2a223e6ca4388d052c0f88f92116f16cdc69"), looks := false }, kinds := [], alts := [], laidByText := true, laidKinds := [.data], laidTests := true, laidLooks := .later }
def SkiplistRangesUptoCardSaid : Prop := Claim7.holds Tryd.pinned (.plain (OpenSpec.upto skiplistRangesSpec)) skiplistRangesUptoCard

/-- THE SECOND FORM's CARD OF 'cisternlaw09.SkiplistTall'. -/
def skiplistTallUptoCard : Claim7 := { stood := { row := skiplistTallUptoRow, standIns := [], harness := (true, "7a763beddc5851a4ee5f3eb8534f2a223e6ca4388d052c0f88f92116f16cdc69"), looks := false }, kinds := [], alts := [], laidByText := true, laidKinds := [.data], laidTests := true, laidLooks := .later }
def SkiplistTallUptoCardSaid : Prop := Claim7.holds Tryd.pinned (.plain (OpenSpec.upto skiplistTallSpec)) skiplistTallUptoCard
end Rows
end Go.Proofs.YtgbplghokciimaaDoor
