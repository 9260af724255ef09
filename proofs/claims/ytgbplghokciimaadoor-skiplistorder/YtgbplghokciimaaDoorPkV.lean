import Derived.Test.YtgbplghokciimaaDoorSkA
import Derived.Test.YtgbplghokciimaaDoorSkP
namespace Go.Proofs.YtgbplghokciimaaDoor.I
open Go.RowKit
/-- what a member bears, as a value. -/
abbrev vl (x : Int) : Value := .int .i64 x
abbrev vz : Value := .int .i64 0
end Go.Proofs.YtgbplghokciimaaDoor.I
