import Derived.Test.YtfkcpilkhdbpoaaGreatDoorRows
import Derived.JoinedOf
import Derived.KernelRfl
import Derived.Carry
namespace Go.Proofs.YtfkcpilkhdbpoaaGreatDoor
open Go
set_option maxRecDepth 100000
theorem jf_k20 : (Rows.valueNewsRow.ifacesOut == Tryz.f3.resultTypes.toList.any (Tryz.prog.ifacesRec ·)) = true := by kernel_rfl
theorem jf_k21 : (Rows.valueNewsRow.loopsOut == Tryz.f3.resultTypes.toList.any (Tryz.prog.loopsFrom ·)) = true := by kernel_rfl
theorem jf_k22 : (Rows.valueNewsRow.plainKeys == Tryz.prog.plainKeys) = true := by kernel_rfl
theorem jf_k23 : Rows.valueNewsRow.shortTexts.isNone = true := by kernel_rfl
theorem jf_k23b : Tryz.prog.stopsHeard = true := by kernel_rfl
theorem jf_k24 : Tryz.prog.mayEnter = true := by kernel_rfl
theorem jf_k24b : (Rows.valueNewsRow.lifted == Tryz.prog.liftsFinal) = true := by kernel_rfl
theorem jf_k24c : (Tryz.prog.make == some Rows.valueNewsRow.make) = true := by kernel_rfl
theorem jf_k25 : (Rows.valueNewsRow.kinds == []) = true := by kernel_rfl
theorem jf_k25d : Rows.valueNewsRow.domain.isEmpty = true := by kernel_rfl
theorem jf_k26 : (Rows.valueNewsRow.pinned == Rows.valueNewsRow.pinnedBy) = true := by kernel_rfl
theorem jf_k27 : (Rows.valueNewsRow.veiled == (Tryz.f3.params.toList ++ Rows.valueNewsSpec.plain.varTypes Tryz.prog ++ Tryz.f3.resultTypes.toList).any (Tryz.prog.veiledRec ·)) = true := by kernel_rfl
theorem jf_k28 : Rows.valueNewsRow.veiledFits Tryz.prog Tryz.f3.params.toList (Tryz.f3.params.toList ++ Rows.valueNewsSpec.plain.varTypes Tryz.prog ++ Tryz.f3.resultTypes.toList) = true := by kernel_rfl
end Go.Proofs.YtfkcpilkhdbpoaaGreatDoor
