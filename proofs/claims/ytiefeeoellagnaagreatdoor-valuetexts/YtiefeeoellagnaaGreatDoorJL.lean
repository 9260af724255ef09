import Derived.Test.YtiefeeoellagnaaGreatDoorRows
import Derived.JoinedOf
import Derived.KernelRfl
import Derived.Carry
namespace Go.Proofs.YtiefeeoellagnaaGreatDoor
open Go
set_option maxRecDepth 100000
theorem jf_k20:(Rows.valueTextsRow.ifacesOut == Tryz.f3.resultTypes.toList.any (Tryz.prog.ifacesRec ·))=true:=by kernel_rfl
theorem jf_k21:(Rows.valueTextsRow.loopsOut == Tryz.f3.resultTypes.toList.any (Tryz.prog.loopsFrom ·))=true:=by kernel_rfl
theorem jf_k22:(Rows.valueTextsRow.plainKeys == Tryz.prog.plainKeys)=true:=by kernel_rfl
theorem jf_k23:Rows.valueTextsRow.shortTexts.isNone=true:=by kernel_rfl
theorem jf_k23b:Tryz.prog.stopsHeard=true:=by kernel_rfl
theorem jf_k24:Tryz.prog.mayEnter=true:=by kernel_rfl
theorem jf_k24b:(Rows.valueTextsRow.lifted == Tryz.prog.liftsFinal)=true:=by kernel_rfl
theorem jf_k24c:(Tryz.prog.make == some Rows.valueTextsRow.make)=true:=by kernel_rfl
theorem jf_k25:(Rows.valueTextsRow.kinds == [])=true:=by kernel_rfl
theorem jf_k25d:Rows.valueTextsRow.domain.isEmpty=true:=by kernel_rfl
theorem jf_k26:(Rows.valueTextsRow.pinned == Rows.valueTextsRow.pinnedBy)=true:=by kernel_rfl
theorem jf_k27:(Rows.valueTextsRow.veiled == (Tryz.f3.params.toList ++ Rows.valueTextsSpec.plain.varTypes Tryz.prog ++ Tryz.f3.resultTypes.toList).any (Tryz.prog.veiledRec ·))=true:=by kernel_rfl
theorem jf_k28:Rows.valueTextsRow.veiledFits Tryz.prog Tryz.f3.params.toList (Tryz.f3.params.toList ++ Rows.valueTextsSpec.plain.varTypes Tryz.prog ++ Tryz.f3.resultTypes.toList)=true:=by kernel_rfl
end Go.Proofs.YtiefeeoellagnaaGreatDoor
