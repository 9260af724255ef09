import Derived.Test.YtfkcpilkhdbpoaaGreatDoorRows
import Derived.JoinedOf
import Derived.KernelRfl
import Derived.Carry
namespace Go.Proofs.YtfkcpilkhdbpoaaGreatDoor
open Go
set_option maxRecDepth 100000
theorem jf_maps : mapsRowed Tryz.prog = true := by kernel_rfl
end Go.Proofs.YtfkcpilkhdbpoaaGreatDoor
namespace Go.Proofs.YtfkcpilkhdbpoaaGreatDoor
open Go
set_option maxRecDepth 100000
theorem jf_inPlace : (Rows.valueNewsRow.inPlace == Tryz.prog.inPlace 3) = true := by kernel_rfl
end Go.Proofs.YtfkcpilkhdbpoaaGreatDoor
