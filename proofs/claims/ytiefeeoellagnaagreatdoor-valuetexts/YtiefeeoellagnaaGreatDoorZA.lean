import Derived.Test.YtiefeeoellagnaaGreatDoorRows
import Derived.JoinedOf
import Derived.KernelRfl
import Derived.Carry
namespace Go.Proofs.YtiefeeoellagnaaGreatDoor
open Go
set_option maxRecDepth 100000
theorem lo_types:(List.range Tryz.prog.types.size).all (rowFine Tryz.prog)=true:=by kernel_rfl
end Go.Proofs.YtiefeeoellagnaaGreatDoor
namespace Go.Proofs.YtiefeeoellagnaaGreatDoor
open Go
set_option maxRecDepth 100000
theorem lo_globs:Tryz.prog.globals.all (fun g=>decide (g.type < Tryz.prog.types.size))=true:=by kernel_rfl
theorem lo_funcs:Tryz.prog.funcs.all (fun f=>f.params.all fun t=>decide (t < Tryz.prog.types.size))=true:=by kernel_rfl
end Go.Proofs.YtiefeeoellagnaaGreatDoor
