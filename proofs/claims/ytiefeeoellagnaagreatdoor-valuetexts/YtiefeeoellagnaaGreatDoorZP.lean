import Derived.Test.YtiefeeoellagnaaGreatDoorRows
import Derived.JoinedOf
import Derived.SevenTiedAt
import Derived.Test.YtiefeeoellagnaaGreatDoorCards
import Derived.KernelRfl
import Derived.Carry
namespace Go.Proofs.YtiefeeoellagnaaGreatDoor
open Go
set_option maxRecDepth 100000
theorem cd_looks:true=Tryz.prog.looks []:=by kernel_rfl
end Go.Proofs.YtiefeeoellagnaaGreatDoor
namespace Go.Proofs.YtiefeeoellagnaaGreatDoor
open Go
set_option maxRecDepth 100000
theorem cd_main:Tryz.prog.mainIs=some (true, "37619bb843d036d0e3119ec923b0658f85d1aba44a0585655b9634bd9dcacd71".toList):=by kernel_rfl
theorem cd_wf:Rows.valueTextsRow.wfByText (OpenSpec.ofChange Rows.valueTextsSpec)=true:=by kernel_rfl
theorem cd_wants:([23, 24].all fun u=>!Tryz.prog.wantsStandIn u)=true:=by kernel_rfl
theorem cd_named:Tryz.prog.funcNamed "cistern/cisternlaw10.ValueTexts"=some 3:=by kernel_rfl
theorem cd_inst:decide (Tryz.f3.isInstance Tryz.prog Rows.valueTextsRow.origin Rows.valueTextsRow.targs)=true:=by kernel_rfl
end Go.Proofs.YtiefeeoellagnaaGreatDoor
