import Derived.Test.YtiefeeoellagnaaGreatDoorRows
import Derived.JoinedOf
import Derived.KernelRfl
import Derived.Carry
namespace Go.Proofs.YtiefeeoellagnaaGreatDoor
open Go
set_option maxRecDepth 100000
theorem jf_named:(Rows.valueTextsRow.named == Tryz.prog.varsNamed 3)=true:=by kernel_rfl
end Go.Proofs.YtiefeeoellagnaaGreatDoor
namespace Go.Proofs.YtiefeeoellagnaaGreatDoor
open Go
set_option maxRecDepth 100000
theorem jf_stops:(Tryz.prog.stops == [])=true:=by kernel_rfl
theorem jf_knobs:(Tryz.prog.stopKnobs == [])=true:=by kernel_rfl
end Go.Proofs.YtiefeeoellagnaaGreatDoor
namespace Go.Proofs.YtiefeeoellagnaaGreatDoor
open Go
set_option maxRecDepth 100000
theorem jf_k1:Rows.valueTextsRow.wf (OpenSpec.ofChange Rows.valueTextsSpec)=true:=by kernel_rfl
theorem jf_k4:Tryz.f3.params.all (Tryz.prog.readableRec ·)=true:=by kernel_rfl
theorem jf_k5:namedTie Tryz.prog Rows.valueTextsRow.named Rows.valueTextsSpec.vars=true:=by kernel_rfl
theorem jf_k6:(Rows.valueTextsRow.stops == [])=true:=by kernel_rfl
theorem jf_k8:(Rows.valueTextsRow.knobs == [])=true:=by kernel_rfl
theorem jf_k14:(Rows.valueTextsRow.maps == (Tryz.f3.params.toList ++ Rows.valueTextsSpec.plain.varTypes Tryz.prog).any (Tryz.prog.mapsRec ·))=true:=by kernel_rfl
theorem jf_k15:(Rows.valueTextsRow.ifaces == (Tryz.f3.params.toList ++ Rows.valueTextsSpec.plain.varTypes Tryz.prog).any (Tryz.prog.ifacesRec ·))=true:=by kernel_rfl
theorem jf_k16:(Rows.valueTextsRow.mapsOut == Tryz.prog.mapsAmong Tryz.f3.resultTypes.toList)=true:=by kernel_rfl
theorem jf_k17:(Rows.valueTextsRow.loops == (Tryz.f3.params.toList ++ Rows.valueTextsSpec.plain.varTypes Tryz.prog).any (Tryz.prog.loopsFrom ·))=true:=by kernel_rfl
theorem jf_k17b:(Rows.valueTextsRow.wideKeys == (Tryz.f3.params.toList ++ Rows.valueTextsSpec.plain.varTypes Tryz.prog ++ Tryz.f3.resultTypes.toList).any (Tryz.prog.wideKeysFrom ·))=true:=by kernel_rfl
theorem jf_k18:Rows.valueTextsSpec.vars.all (Tryz.prog.varReadable ·)=true:=by kernel_rfl
theorem jf_k19:Tryz.f3.resultTypes.all (fun t=>Tryz.prog.readableRec t && decide (t < Tryz.prog.types.size))=true:=by kernel_rfl
end Go.Proofs.YtiefeeoellagnaaGreatDoor
