import Derived.Test.YtfkcpilkhdbpoaaGreatDoorRows
import Derived.JoinedOf
import Derived.KernelRfl
import Derived.Carry
namespace Go.Proofs.YtfkcpilkhdbpoaaGreatDoor
open Go
set_option maxRecDepth 100000
theorem jf_unf : (Rows.valueNewsRow.unfollowed == Tryz.prog.unfollowed 3) = true := by kernel_rfl
end Go.Proofs.YtfkcpilkhdbpoaaGreatDoor
namespace Go.Proofs.YtfkcpilkhdbpoaaGreatDoor
open Go
set_option maxRecDepth 100000
theorem jf_rec : (Rows.valueNewsRow.recurses == Tryz.prog.recurses 3) = true := by kernel_rfl
end Go.Proofs.YtfkcpilkhdbpoaaGreatDoor
