import Derived.Test.YtfkcpilkhdbpoaaGreatDoorRows
import Derived.JoinedOf
import Derived.SevenTiedAt
import Derived.Test.YtfkcpilkhdbpoaaGreatDoorCards
import Derived.KernelRfl
import Derived.Carry
namespace Go.Proofs.YtfkcpilkhdbpoaaGreatDoor
open Go
set_option maxRecDepth 100000
theorem cd_looks : true = Tryz.prog.looks [] := by kernel_rfl
end Go.Proofs.YtfkcpilkhdbpoaaGreatDoor
namespace Go.Proofs.YtfkcpilkhdbpoaaGreatDoor
open Go
set_option maxRecDepth 100000
theorem cd_main : Tryz.prog.mainIs = some (true, "c4d98483b96d16d21f6ba0e5d6126dfa9d9517dad4dcc6dbf99c9fb72d7afb05".toList) := by kernel_rfl
theorem cd_wf : Rows.valueNewsRow.wfByText (OpenSpec.ofChange Rows.valueNewsSpec) = true := by kernel_rfl
theorem cd_wants : ([3, 23].all fun u => !Tryz.prog.wantsStandIn u) = true := by kernel_rfl
theorem cd_named : Tryz.prog.funcNamed "cistern/cisternlaw10.ValueNews" = some 3 := by kernel_rfl
theorem cd_inst : decide (Tryz.f3.isInstance Tryz.prog Rows.valueNewsRow.origin Rows.valueNewsRow.targs) = true := by kernel_rfl
end Go.Proofs.YtfkcpilkhdbpoaaGreatDoor
