import Derived.Test.YtfkcpilkhdbpoaaGreatDoorRows
import Derived.JoinedOf
import Derived.KernelRfl
import Derived.Carry
namespace Go.Proofs.YtfkcpilkhdbpoaaGreatDoor
open Go
set_option maxRecDepth 100000
theorem jf_named : (Rows.valueNewsRow.named == Tryz.prog.varsNamed 3) = true := by kernel_rfl
end Go.Proofs.YtfkcpilkhdbpoaaGreatDoor
namespace Go.Proofs.YtfkcpilkhdbpoaaGreatDoor
open Go
set_option maxRecDepth 100000
theorem jf_stops : (Tryz.prog.stops == []) = true := by kernel_rfl
theorem jf_knobs : (Tryz.prog.stopKnobs == []) = true := by kernel_rfl
end Go.Proofs.YtfkcpilkhdbpoaaGreatDoor
namespace Go.Proofs.YtfkcpilkhdbpoaaGreatDoor
open Go
set_option maxRecDepth 100000
theorem jf_k1 : Rows.valueNewsRow.wf (OpenSpec.ofChange Rows.valueNewsSpec) = true := by kernel_rfl
theorem jf_k4 : Tryz.f3.params.all (Tryz.prog.readableRec ·) = true := by kernel_rfl
theorem jf_k5 : namedTie Tryz.prog Rows.valueNewsRow.named Rows.valueNewsSpec.vars = true := by kernel_rfl
theorem jf_k6 : (Rows.valueNewsRow.stops == []) = true := by kernel_rfl
theorem jf_k8 : (Rows.valueNewsRow.knobs == []) = true := by kernel_rfl
theorem jf_k14 : (Rows.valueNewsRow.maps == (Tryz.f3.params.toList ++ Rows.valueNewsSpec.plain.varTypes Tryz.prog).any (Tryz.prog.mapsRec ·)) = true := by kernel_rfl
theorem jf_k15 : (Rows.valueNewsRow.ifaces == (Tryz.f3.params.toList ++ Rows.valueNewsSpec.plain.varTypes Tryz.prog).any (Tryz.prog.ifacesRec ·)) = true := by kernel_rfl
theorem jf_k16 : (Rows.valueNewsRow.mapsOut == Tryz.prog.mapsAmong Tryz.f3.resultTypes.toList) = true := by kernel_rfl
theorem jf_k17 : (Rows.valueNewsRow.loops == (Tryz.f3.params.toList ++ Rows.valueNewsSpec.plain.varTypes Tryz.prog).any (Tryz.prog.loopsFrom ·)) = true := by kernel_rfl
theorem jf_k17b : (Rows.valueNewsRow.wideKeys == (Tryz.f3.params.toList ++ Rows.valueNewsSpec.plain.varTypes Tryz.prog ++ Tryz.f3.resultTypes.toList).any (Tryz.prog.wideKeysFrom ·)) = true := by kernel_rfl
theorem jf_k18 : Rows.valueNewsSpec.vars.all (Tryz.prog.varReadable ·) = true := by kernel_rfl
theorem jf_k19 : Tryz.f3.resultTypes.all (fun t => Tryz.prog.readableRec t && decide (t < Tryz.prog.types.size)) = true := by kernel_rfl
end Go.Proofs.YtfkcpilkhdbpoaaGreatDoor
