import Derived.Test.YtnfbaeajalnmmaaGreatDoorBase
import Derived.Test.YtnfbaeajalnmmaaGreatDoorRows
import Derived.SliceStrings
namespace Go.Proofs.YtnfbaeajalnmmaaGreatDoor
open Go.ChangeShapes
set_option linter.unusedVariables false
theorem bulk_small {H : Type} {l : List (DataW H)} (hk : Rows.uptoSmall H l = true) : Rows.uptoBulkAll l ≤ 1048576 := of_decide_eq_true hk
end Go.Proofs.YtnfbaeajalnmmaaGreatDoor
