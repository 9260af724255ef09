import Derived.Test.YtgbplghokciimaaDoorSkA
import Derived.Test.YtgbplghokciimaaDoorSkP
namespace Go.Proofs.YtgbplghokciimaaDoor.S
open Go.RowKit
/-- what a member bears, as a value. -/
def txt (x : Int) : ByteArray := if x = 1 then ⟨#[120]⟩ else if x = 2 then ⟨#[121]⟩ else if x = 3 then ⟨#[122]⟩ else ⟨#[119]⟩
abbrev vl (x : Int) : Value := .string (txt x)
abbrev vz : Value := .string ⟨#[]⟩
end Go.Proofs.YtgbplghokciimaaDoor.S
